/- Texts joined: FProgWithout. -/
import Derived.Test.YtjpoacffnpgjdaaGreatJ29
import Derived.Test.YtjpoacffnpgjdaaGreatJ15
/- Without: by the program. -/
namespace Go.Proofs.YtjpoacffnpgjdaaGreat
open Go Go.RowKit Go.Shelf
attribute [local go_sem] Oper.semAt_some Rel RelAt RelUpon

theorem lk_small {f : Fi} (ok : FireOk f) (B : Lk → Bool) : (f.ls.filter fun x => !B x).length ≤ 24 := Nat.le_trans (List.length_filter_le _ _) ok.len
set_option maxRecDepth 100000 in
set_option maxHeartbeats 4000000 in
theorem Without_c (f : Fi) (vl vi : Value) (ids : List Int) (w : World) (hl : Lks w w.heap.size vl f.ls) (hi : Ints w w.heap.size vi ids) :
    Calls Tryz.prog 16 #[fiV f vl, vi] w fun e w' => ∃ u, e = .returned (.tuple #[fiV (withoutR f ids) u, .int .i64 (fireI f)]) ∧ Lks w' w'.heap.size u (withoutR f ids).ls ∧ Below w.heap.size w w' := by
  obtain ⟨A, cap, rfl⟩ := hl.form
  obtain ⟨Ai, capi, rfl⟩ := hi.form
  obtain ⟨q0, q1, q2, qs, qb⟩ := three_new w (.cells #[.int .i64 f.rise, .int .i64 f.fall, .int .i64 f.up, .int .i64 f.down, .slice A f.ls.length cap] 24) (.cells #[.slice Ai ids.length capi] 27) (.cells #[.int .i64 0, .int .i64 0, .int .i64 0, .int .i64 0, .slice none 0 0] 24)
  have hC := fun W (hb : Below w.heap.size w W) => Check_c f (fiV f (.slice A f.ls.length cap)) W ⟨_, rfl, hl.later hb⟩
  have HL := Lib.hid hl
  have HI := Lib.hid hi
  unfold fiV at hC
  go_enter Tryz.func16, Tryz.ntmps16
  unfold fiV
  go_wp2_with fail
  clear qs
  generalize ((w.alloc _).alloc _).alloc _ = W4 at q0 q1 q2 qb ⊢
  refine (hC W4 qb).mono ?_
  rintro e W5 ⟨rfl, hb5⟩
  replace q0 := (hb5.block _ (size_of_block q0)).trans q0
  replace q1 := (hb5.block _ (size_of_block q1)).trans q1
  replace q2 := (hb5.block _ (size_of_block q2)).trans q2
  replace qb := below_then qb hb5
  clear hb5 hC hl hi
  by_cases hf : fireI f = 0
  · have ok := fire_ok hf
    have HR : Hid (withoutR f ids = withF f (butL f.ls ids)) := by show withoutR f ids = _; unfold withoutR; rw [if_pos hf]
    have HF := Lib.hid hf
    have HOK := Lib.hid ok
    have hlen := ok.len
    rw [hf]
    clear hf ok
    have s4 := Joins.cell_of_block q0 4
    have hcl := clone_c (.slice A f.ls.length cap) f.ls W5 (HL.out.later qb) (by omega)
    go_wp2_with fail
    refine hcl.mono ?_
    rintro e W6 ⟨u, rfl, hown, hb6⟩
    clear hcl
    have z5 := size_of_block q0
    have n5 := size_of_block q2
    have p0 := (hb6.block _ (size_of_block q0)).trans q0
    have p1 := (hb6.block _ (size_of_block q1)).trans q1
    have p2 := (hb6.block _ (size_of_block q2)).trans q2
    have B6 := below_then qb hb6
    have hD : Calls Tryz.prog 68 #[u, .func (.func 70) #[] #[.pointer (some ⟨w.heap.size + 1, 0, none⟩)]] W6 fun e w' => ∃ A7 n7 cap7, e = .returned (.slice A7 n7 cap7) ∧ ((A7 = none ∧ n7 = 0 ∧ f.ls = []) ∨ ∃ g, A7 = some ⟨g, 0, none⟩ ∧ W5.heap.size ≤ g ∧ n7 = (butL f.ls ids).length ∧ n7 ≤ cap7 ∧ RowAt lkC 5 w' g 90 (butL f.ls ids)) ∧ Below W5.heap.size W5 w' := by
      rcases hown.2 with ⟨rfl, h0⟩ | ⟨g, c, cur, rfl, hg, _⟩
      · refine (deleteNil_c none 0 _ W6).mono fun e w' ⟨he, hw⟩ => ⟨_, _, _, he, .inl ⟨rfl, rfl, List.length_eq_zero_iff.1 h0⟩, by rw [hw]; exact hb6⟩
      · obtain ⟨hr, hg2, hc⟩ := RowAt.of_own hown
        refine (deleteLk_c g c f.ls (fun x => ids.contains x.id) 70 (.pointer (some ⟨w.heap.size + 1, 0, none⟩)) W5 W6 hr hc (by omega) hb6 hg2 (enters_of Tryz.func70 (by kernel_rfl) rfl) fun x W hW => without1_c x (.slice Ai ids.length capi) ids (w.heap.size + 1) W ((hW.block _ (size_of_block q1)).trans q1) (HI.out.later (below_then qb hW))).mono ?_
        rintro e w' ⟨he, h1, h2⟩
        exact ⟨_, _, _, he, .inr ⟨g, rfl, hg2, rfl, Nat.le_trans (List.length_filter_le _ _) hc, h1⟩, h2⟩
    clear hown p0 p1 p2 B6 s4 hb6
    go_wp2_with fail
    refine hD.mono ?_
    rintro e W7 ⟨A7, n7, cap7, rfl, hres, hb7⟩
    have p0 := (hb7.block _ (size_of_block q0)).trans q0
    have p2 := (hb7.block _ (size_of_block q2)).trans q2
    have B7 := below_then qb hb7
    have f4 := Joins.unfrozen_of_block p0 4
    have s4 := Joins.cell_of_block p0 4
    have P0 := Joins.block_setCell (i := 4) p0 (.slice A7 n7 cap7)
    have P2 := (put_other (i := 4) (.slice A7 n7 cap7) (show w.heap.size + 1 + 1 ≠ w.heap.size by omega)).trans p2
    have BP := below_set (i := 4) (v := .slice A7 n7 cap7) B7 (Nat.le_refl w.heap.size)
    have c0 := Joins.cell_of_block P0 0
    have c1 := Joins.cell_of_block P0 1
    have c2 := Joins.cell_of_block P0 2
    have c3 := Joins.cell_of_block P0 3
    have c4 := Joins.cell_of_block P0 4
    have HP := Lib.hid (fun j : Nat => cell_setRow_same (W7.setCell ⟨w.heap.size, 4, none⟩ (.slice A7 n7 cap7)) (w.heap.size + 1 + 1) j _ #[.int .i64 f.rise, .int .i64 f.fall, .int .i64 f.up, .int .i64 f.down, .slice A7 n7 cap7] _ _ P2)
    have BF := below_setRow BP (show w.heap.size ≤ w.heap.size + 1 + 1 by omega) #[.int .i64 f.rise, .int .i64 f.fall, .int .i64 f.up, .int .i64 f.down, .slice A7 n7 cap7]
    have HRES : Hid (Lks ((W7.setCell ⟨w.heap.size, 4, none⟩ (.slice A7 n7 cap7)).setRow (w.heap.size + 1 + 1) #[.int .i64 f.rise, .int .i64 f.fall, .int .i64 f.up, .int .i64 f.down, .slice A7 n7 cap7]) ((W7.setCell ⟨w.heap.size, 4, none⟩ (.slice A7 n7 cap7)).setRow (w.heap.size + 1 + 1) #[.int .i64 f.rise, .int .i64 f.fall, .int .i64 f.up, .int .i64 f.down, .slice A7 n7 cap7]).heap.size (.slice A7 n7 cap7) (butL f.ls ids)) := by
      show Lks _ _ _ _
      rcases hres with ⟨rfl, rfl, h0⟩ | ⟨g, rfl, hg, rfl, hc, hr⟩
      · rw [h0]; exact ⟨none, cap7, rfl, Nat.zero_le _, Nat.zero_le _, fun h => absurd h (by simp [butL])⟩
      · refine RowAt.sl (t := 90) ?_ lkC_len hc (by have := Nat.le_trans (List.length_filter_le (fun x : Lk => !ids.contains x.id) f.ls) hlen; unfold butL; omega)
        obtain ⟨cur, k1, k2⟩ := hr
        exact ⟨cur, (setRow_other _ _ _ _ (by omega)).trans ((put_other _ (by omega)).trans k1), k2⟩
    clear hD hres hb7 q0 q1 q2 qb p0 p2 B7 P0 BP
    go_wp2_with (refine wpList_store_rowTo rfl 24 _ _ rfl rfl (w.heap.size + 1 + 1) #[.int .i64 f.rise, .int .i64 f.fall, .int .i64 f.up, .int .i64 f.down, .slice A7 n7 cap7] rfl rfl 24 _ P2 (by kernel_rfl) rfl (by kernel_rfl) ?_)
    refine bodyPost_ret (v := .tuple #[.agg #[.int .i64 f.rise, .int .i64 f.fall, .int .i64 f.up, .int .i64 f.down, .slice A7 n7 cap7], .int .i64 0]) ?_ rfl ⟨.slice A7 n7 cap7, by rw [HR.out, HF.out]; rfl, by rw [HR.out]; exact HRES.out, BF⟩
    simp [results, Tryz.results16, go_sem, HP.out]
  · have d1 : (fireI f != 0) = true := by simpa using hf
    have HR : Hid (withoutR f ids = nilF) := by show withoutR f ids = _; unfold withoutR; rw [if_neg hf]
    have HP := Lib.hid (fun j : Nat => cell_setRow_same W5 (w.heap.size + 1 + 1) j _ #[.int .i64 0, .int .i64 0, .int .i64 0, .int .i64 0, .slice none 0 0] _ _ q2)
    clear hf
    go_wp2_with (refine wpList_store_rowTo rfl 24 _ _ rfl rfl (w.heap.size + 1 + 1) #[.int .i64 0, .int .i64 0, .int .i64 0, .int .i64 0, .slice none 0 0] rfl rfl 24 _ q2 (by kernel_rfl) rfl (by kernel_rfl) ?_)
    refine bodyPost_ret (v := .tuple #[.agg #[.int .i64 0, .int .i64 0, .int .i64 0, .int .i64 0, .slice none 0 0], .int .i64 (fireI f)]) ?_ rfl ⟨.slice none 0 0, by rw [HR.out]; rfl, by rw [HR.out]; exact Sl.nil_, below_setRow qb (by omega) _⟩
    simp [results, Tryz.results16, go_sem, HP.out]
end Go.Proofs.YtjpoacffnpgjdaaGreat
