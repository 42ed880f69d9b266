/- Texts joined: FProgWould. -/
import Derived.Test.YtjpoacffnpgjdaaGreatJ26
import Derived.Test.YtjpoacffnpgjdaaGreatJ17
import Derived.Test.YtjpoacffnpgjdaaGreatJ2
import Derived.Test.YtjpoacffnpgjdaaGreatJ4
/- Would: by the program. -/
namespace Go.Proofs.YtjpoacffnpgjdaaGreat
open Go Go.RowKit Go.Shelf
attribute [local go_sem] Oper.semAt_some Rel RelAt RelUpon

set_option maxRecDepth 100000 in
set_option maxHeartbeats 4000000 in
theorem Would_c (f : Fi) (vl : Value) (x : Lk) (p : Spt) (w : World) (hl : Lks w w.heap.size vl f.ls) :
    Calls Tryz.prog 47 #[fiV f vl, lkV x, sV p] w fun e w' => e = .returned (.tuple #[bndV (wouldR f x p), .int .i64 (wouldE f x p)]) ∧ Below w.heap.size w w' := by
  obtain ⟨A, cap, rfl⟩ := hl.form
  obtain ⟨q0, q1, q2, q3, qs, qb⟩ := four_new w (.cells #[.int .i64 f.rise, .int .i64 f.fall, .int .i64 f.up, .int .i64 f.down, .slice A f.ls.length cap] 24) (.cells #[.int .i64 x.id, .int .i64 x.foot, .int .i64 x.hour, .int .i64 x.lo, .int .i64 x.hi] 90) (.cells #[.int .i64 p.foot, .int .i64 p.hour] 26) (.cells #[.int .i64 0, .int .i64 0, .int .i64 0, .int .i64 0] 56)
  have hC := fun W (hb : Below w.heap.size w W) => Check_c f (fiV f (.slice A f.ls.length cap)) W ⟨_, rfl, hl.later hb⟩
  obtain ⟨R, hR⟩ : ∃ r, r = wouldR f x p := ⟨_, rfl⟩
  obtain ⟨E, hE⟩ : ∃ r, r = wouldE f x p := ⟨_, rfl⟩
  rw [← hR, ← hE]
  have HR := Lib.hid hR
  have HE := Lib.hid hE
  clear hR hE
  have HL := Lib.hid hl
  unfold fiV at hC ⊢
  unfold lkV sV
  go_enter Tryz.func47, Tryz.ntmps47
  go_wp2_with fail
  clear qs
  generalize (((w.alloc _).alloc _).alloc _).alloc _ = W4 at q0 q1 q2 q3 qb ⊢
  refine (hC W4 qb).mono ?_
  rintro e W5 ⟨rfl, hb5⟩
  replace q0 := (hb5.block _ (size_of_block q0)).trans q0
  replace q1 := (hb5.block _ (size_of_block q1)).trans q1
  replace q2 := (hb5.block _ (size_of_block q2)).trans q2
  replace q3 := (hb5.block _ (size_of_block q3)).trans q3
  replace qb := below_then qb hb5
  clear hb5 hC hl
  by_cases hf : fireI f = 0
  · have ok := fire_ok hf
    have HF := Lib.hid hf
    have HOK := Lib.hid ok
    rw [hf]
    clear hf ok
    have t0 := Joins.cell_of_block q2 0
    have t1 := Joins.cell_of_block q2 1
    have b6 := below_alloc W5 (.cells #[.int .i64 p.foot, .int .i64 p.hour] 26)
    have y6 := heap_alloc_new W5 (.cells #[.int .i64 p.foot, .int .i64 p.hour] 26)
    go_wp2_with fail
    generalize W5.alloc _ = W6 at b6 y6 ⊢
    refine (checkSpots_c _ [p] W6 (spts1 y6)).mono ?_
    rintro e W7 ⟨rfl, hb7⟩
    rw [show (if [p].all spotB then (0 : Int) else 1) = spotE p by simp [spotE]]
    have b7 := below_then b6 hb7
    replace q0 := (b7.block _ (size_of_block q0)).trans q0
    replace q1 := (b7.block _ (size_of_block q1)).trans q1
    replace q2 := (b7.block _ (size_of_block q2)).trans q2
    replace q3 := (b7.block _ (size_of_block q3)).trans q3
    replace qb := below_then qb b7
    clear b6 y6 hb7 b7 t0 t1
    by_cases hp : spotB p = true
    · have hE0 : spotE p = 0 := spotE_iff.2 hp
      rw [hE0]
      have HE2 : Hid (E = endsE (moreF f x) p) := by show E = _; rw [HE.out]; unfold wouldE; rw [if_neg (by rw [HF.out]; simp), if_neg (by rw [hp]; simp)]
      have HR2 : Hid (R = endsR (moreF f x) p) := by
        show R = _
        rw [HR.out]
        have e1 : wouldE f x p = endsE (moreF f x) p := HE.out.symm.trans HE2.out
        unfold wouldR endsR
        rw [e1]; rfl
      clear hE0 hp
      have s4 := Joins.cell_of_block q0 4
      have u0 := Joins.cell_of_block q1 0
      have u1 := Joins.cell_of_block q1 1
      have u2 := Joins.cell_of_block q1 2
      have u3 := Joins.cell_of_block q1 3
      have u4 := Joins.cell_of_block q1 4
      have hLk := HL.out.later qb
      have hlen := HOK.out.len
      obtain ⟨y0, y1, ys, yb⟩ := two_new' W7 (.cells #[.int .i64 x.id, .int .i64 x.foot, .int .i64 x.hour, .int .i64 x.lo, .int .i64 x.hi] 90) (.cells #[.slice A f.ls.length cap, .slice (some ⟨W7.heap.size, 0, none⟩) 1 1] 22)
      have hx1 : Lks (W7.alloc (.cells #[.int .i64 x.id, .int .i64 x.foot, .int .i64 x.hour, .int .i64 x.lo, .int .i64 x.hi] 90)) (W7.alloc (.cells #[.int .i64 x.id, .int .i64 x.foot, .int .i64 x.hour, .int .i64 x.lo, .int .i64 x.hi] 90)).heap.size (.slice (some ⟨W7.heap.size, 0, none⟩) 1 1) [x] := builtL lkC_len W7 [x] 90 _ _ 1 rfl (by simp) rfl rfl
      replace hx1 := hx1.later (below_alloc _ (.cells #[.slice A f.ls.length cap, .slice (some ⟨W7.heap.size, 0, none⟩) 1 1] 22))
      replace hLk := hLk.later yb
      go_wp2_with fail
      clear ys
      generalize (W7.alloc _).alloc _ = W8 at y0 y1 yb hx1 hLk ⊢
      refine (concat2_c (W7.heap.size + 1) _ _ f.ls [x] W8 y1 hLk hx1 (by omega) (by simp)).mono ?_
      rintro e W9 ⟨v, rfl, hown, hb9⟩
      have b9 := below_then yb hb9
      replace q0 := (b9.block _ (size_of_block q0)).trans q0
      replace q2 := (b9.block _ (size_of_block q2)).trans q2
      replace q3 := (b9.block _ (size_of_block q3)).trans q3
      replace qb := below_then qb b9
      obtain ⟨A9, cap9, rfl⟩ := own_form hown
      have e9 : (f.ls ++ [x]).length = f.ls.length + 1 := by simp
      rw [e9] at hown
      clear b9 hb9 yb y0 y1 hx1 hLk s4 u0 u1 u2 u3 u4 q1
      have f4 := Joins.unfrozen_of_block q0 4
      have s4 := Joins.cell_of_block q0 4
      have hne := own_ne_block hown q0 (by decide)
      have hO := own_setCell hown 4 (.slice A9 (f.ls.length + 1) cap9) hne
      have Q0 := Joins.block_setCell (i := 4) q0 (.slice A9 (f.ls.length + 1) cap9)
      have Q2 := (put_other (i := 4) (.slice A9 (f.ls.length + 1) cap9) (show w.heap.size + 1 + 1 ≠ w.heap.size by omega)).trans q2
      have Q3 := (put_other (i := 4) (.slice A9 (f.ls.length + 1) cap9) (show w.heap.size + 1 + 1 + 1 ≠ w.heap.size by omega)).trans q3
      have QB := below_set (i := 4) (v := .slice A9 (f.ls.length + 1) cap9) qb (Nat.le_refl w.heap.size)
      have HO := Lib.hid (Sl.of_own (l := f.ls ++ [x]) lkC_len (by rw [e9]; exact hO) (by rw [e9]; omega))
      clear hO hne hown e9
      obtain ⟨W10, hW10⟩ : ∃ W10, W10 = W9.setCell ⟨w.heap.size, 4, none⟩ (.slice A9 (f.ls.length + 1) cap9) := ⟨_, rfl⟩
      rw [← hW10] at Q0 Q2 Q3 QB HO
      have c0 := Joins.cell_of_block Q0 0
      have c1 := Joins.cell_of_block Q0 1
      have c2 := Joins.cell_of_block Q0 2
      have c3 := Joins.cell_of_block Q0 3
      have c4 := Joins.cell_of_block Q0 4
      have t0 := Joins.cell_of_block Q2 0
      have t1 := Joins.cell_of_block Q2 1
      rw [hW10] at c0 c1 c2 c3 c4 t0 t1
      have HW := Lib.hid hW10
      clear hW10
      go_wp2_with fail
      rw [← HW.out]
      have hEn := Ends_c (moreF f x) (.slice A9 (f.ls.length + 1) cap9) p W10 HO.out
      rw [← HE2.out, ← HR2.out] at hEn
      refine hEn.mono ?_
      rintro e W11 ⟨rfl, hb11⟩
      have R3 := (hb11.block _ (size_of_block Q3)).trans Q3
      have B11 := below_then QB hb11
      clear hEn hb11 Q0 Q2 Q3 QB c0 c1 c2 c3 c4 t0 t1 f4 s4 HO HW HE HE2 HR HR2 q0 q2 q3 qb
      unfold bndV
      have HP := Lib.hid (fun j : Nat => cell_setRow_same W11 (w.heap.size + 1 + 1 + 1) j _ #[.int .i64 R.lo, .int .i64 R.hi, .int .i64 R.low, .int .i64 R.high] _ _ R3)
      go_wp2_with (refine wpList_store_rowTo rfl 56 _ _ rfl rfl (w.heap.size + 1 + 1 + 1) #[.int .i64 R.lo, .int .i64 R.hi, .int .i64 R.low, .int .i64 R.high] rfl rfl 56 _ R3 (by kernel_rfl) rfl (by kernel_rfl) ?_)
      refine bodyPost_ret (v := .tuple #[.agg #[.int .i64 R.lo, .int .i64 R.hi, .int .i64 R.low, .int .i64 R.high], .int .i64 E]) ?_ rfl ⟨rfl, below_setRow B11 (by omega) _⟩
      simp [results, Tryz.results47, go_sem, HP.out]
    · have hE0 : spotE p = 1 := by unfold spotE; rw [if_neg hp]
      rw [hE0]
      have HE2 : Hid (E = 1) := by show E = _; rw [HE.out]; unfold wouldE; rw [if_neg (by rw [HF.out]; simp), if_pos (by simpa using hp)]
      have HR2 : Hid (R = ⟨0, 0, 0, 0⟩) := by show R = _; rw [HR.out]; unfold wouldR; rw [← HE.out, HE2.out]; rfl
      have HP := Lib.hid (fun j : Nat => cell_setRow_same W7 (w.heap.size + 1 + 1 + 1) j _ #[.int .i64 0, .int .i64 0, .int .i64 0, .int .i64 0] _ _ q3)
      clear hp hE0 HE HR
      go_wp2_with (refine wpList_store_rowTo rfl 56 _ _ rfl rfl (w.heap.size + 1 + 1 + 1) #[.int .i64 0, .int .i64 0, .int .i64 0, .int .i64 0] rfl rfl 56 _ q3 (by kernel_rfl) rfl (by kernel_rfl) ?_)
      refine bodyPost_ret (v := .tuple #[.agg #[.int .i64 0, .int .i64 0, .int .i64 0, .int .i64 0], .int .i64 1]) ?_ rfl ⟨by rw [HR2.out, HE2.out], below_setRow qb (by omega) _⟩
      simp [results, Tryz.results47, go_sem, HP.out]
  · have d1 : (fireI f != 0) = true := by simpa using hf
    have HE2 : Hid (E = fireI f) := by show E = _; rw [HE.out]; unfold wouldE; rw [if_pos hf]
    have HR2 : Hid (R = ⟨0, 0, 0, 0⟩) := by show R = _; rw [HR.out]; unfold wouldR; rw [← HE.out, HE2.out, if_neg hf]
    have HP := Lib.hid (fun j : Nat => cell_setRow_same W5 (w.heap.size + 1 + 1 + 1) j _ #[.int .i64 0, .int .i64 0, .int .i64 0, .int .i64 0] _ _ q3)
    clear hf HE HR
    go_wp2_with (refine wpList_store_rowTo rfl 56 _ _ rfl rfl (w.heap.size + 1 + 1 + 1) #[.int .i64 0, .int .i64 0, .int .i64 0, .int .i64 0] rfl rfl 56 _ q3 (by kernel_rfl) rfl (by kernel_rfl) ?_)
    refine bodyPost_ret (v := .tuple #[.agg #[.int .i64 0, .int .i64 0, .int .i64 0, .int .i64 0], .int .i64 (fireI f)]) ?_ rfl ⟨by rw [HR2.out, HE2.out], below_setRow qb (by omega) _⟩
    simp [results, Tryz.results47, go_sem, HP.out]
end Go.Proofs.YtjpoacffnpgjdaaGreat
