/- Texts joined: FProgCat. -/
import Derived.Test.YtjpoacffnpgjdaaGreatJ25
import Derived.Lib.AppendZeros
/- Concat of two slices of looks: by the program. -/
namespace Go.Proofs.YtjpoacffnpgjdaaGreat
open Go Go.RowKit Go.Shelf

theorem run_append_nothing0 {P : Program} {w : World} (base : Nat) (t ty e : TypeId) (i : TypeInfo) (size c : Nat) (ht : P.underlying t = some (.slice e)) (hi : P.info? e = some i)
    (v : Value) (n : Nat) (xs : List Value) (hown : w.ownsRow base e size v n xs) :
    (Builtin.append_ #[t, t] ty #[v, .slice none 0 c]).run P w = .ok v w := by
  rcases hown.2 with ⟨rfl, rfl⟩ | ⟨g, cap, cur, rfl, _, _, hnc, _⟩
  · simp [Builtin.append_, run_underlying ht, sizeOf, typeInfo, hi, Builtin.lenOf, Builtin.firstCells]
  · simp [Builtin.append_, run_underlying ht, sizeOf, typeInfo, hi, Builtin.lenOf, Builtin.firstCells, hnc, storeCells]
set_option maxRecDepth 100000 in
theorem growLk_c (n : Nat) (hn : n ≤ 100000) (w : World) :
    Calls Tryz.prog 130 #[.slice none 0 0, .int .i64 n] w fun e w' => ∃ v, e = .returned v ∧ w'.ownsRow w.heap.size 90 5 v 0 [] ∧ Below w.heap.size w w' := by
  obtain ⟨i0, hi, hz0, hz1, hz2⟩ := info_parts Tryz.infoLookF
  by_cases h0 : n = 0
  · subst h0
    go_enter Tryz.func130, Tryz.ntmps130
    go_wp2_with fail
    go_ret
    exact ⟨_, rfl, World.ownsRow_nil _ _ _ _, Below.refl _ _⟩
  · have hr := Lib.run_append_nil_zeros w 22 3 0 90 i0 _ .i64 .i64 Tryz.underlying22 Tryz.underlying3 hi hz0 n (by omega) (by rw [hz1]; omega) (by omega) (by rw [hz2]; omega)
    have hg1 := grownCap_ge w n 0 90
    have hg2 := grownCap_le_maxLen w n 0 90 (by unfold maxLen; omega)
    have d1 : decide ((n : Int) > 0) = true := decide_eq_true (by omega)
    have HO := Lib.hid (World.ownsRow_made (base := w.heap.size) (e := 90) (size := 5) w.drew (Builtin.zeroCells (Value.agg #[.int .i64 0, .int .i64 0, .int .i64 0, .int .i64 0, .int .i64 0]).cells n ++ Builtin.zeroCells (Value.agg #[.int .i64 0, .int .i64 0, .int .i64 0, .int .i64 0, .int .i64 0]).cells (grownCap w n 0 90 - n)) (grownCap w n 0 90) (Nat.le_refl _) hg2 (by simp [Builtin.zeroCells, Value.cells]; omega))
    have HB : Hid (Below w.heap.size w (w.drew.alloc (.cells (Builtin.zeroCells (Value.agg #[.int .i64 0, .int .i64 0, .int .i64 0, .int .i64 0, .int .i64 0]).cells n ++ Builtin.zeroCells (Value.agg #[.int .i64 0, .int .i64 0, .int .i64 0, .int .i64 0, .int .i64 0]).cells (grownCap w n 0 90 - n)) 90))) := ((Below.refl _ w).drew).alloc (Nat.le_refl _) _
    have HR := Lib.hid hr
    generalize w.drew.alloc _ = W2 at HO HB HR
    generalize grownCap w n 0 90 = G at hg1 hg2 HO HR
    clear hr
    go_enter Tryz.func130, Tryz.ntmps130
    go_wp2_with (at_builtin; refine Lib.wpList_append_run _ rfl _ _ _ _ rfl _ _ rfl rfl _ _ HR.out ?_)
    go_ret
    exact ⟨_, rfl, HO.out, HB.out⟩
def catN (l1 l2 : List Lk) : Nat → Nat
  | 0 => 0
  | 1 => l1.length
  | _ => l1.length + l2.length
def catL (l1 l2 : List Lk) : Nat → List Lk
  | 0 => []
  | 1 => l1
  | _ => l1 ++ l2
set_option maxRecDepth 100000 in
set_option maxHeartbeats 2000000 in
theorem concat2_c (k : Nat) (v1 v2 : Value) (l1 l2 : List Lk) (w : World) (h0 : w.heap[k]? = some (.cells #[v1, v2] 22)) (h1 : Lks w w.heap.size v1 l1) (h2 : Lks w w.heap.size v2 l2) (hl1 : l1.length ≤ 5000) (hl2 : l2.length ≤ 5000) :
    Calls Tryz.prog 102 #[.slice (some ⟨k, 0, none⟩) 2 2] w fun e w' => ∃ v, e = .returned v ∧ w'.ownsRow w.heap.size 90 5 v (l1 ++ l2).length ((l1 ++ l2).flatMap lkC) ∧ Below w.heap.size w w' := by
  obtain ⟨A1, c1, rfl⟩ := h1.form
  obtain ⟨A2, c2, rfl⟩ := h2.form
  obtain ⟨i0, hi, hz0, hz1, hz2⟩ := info_parts Tryz.infoLookF
  have HI := Lib.hid hi
  have HI0 := Lib.hid hz0
  have HI1 := Lib.hid hz1
  have HI2 := Lib.hid hz2
  have H1 := Lib.hid h1
  have H2 := Lib.hid h2
  clear hi hz0 hz1 hz2 h1 h2
  have x0 := Joins.cell_of_block h0 0
  have x1 := Joins.cell_of_block h0 1
  have zk := size_of_block h0
  go_enter Tryz.func102, Tryz.ntmps102
  go_wp2_with fail
  go_loopw [3, 11] (fun s i wr => ∃ j : Nat, j ≤ 2 ∧ i = .int .i64 j ∧ s = .int .i64 (catN l1 l2 j) ∧ wr = w) (fun _ i _ => 2 - (intOf i).toNat)
  case atStart => exact ⟨0, by omega, rfl, rfl, rfl⟩
  case round =>
    obtain ⟨j, hj, rfl, rfl, rfl⟩ := hrel
    match j, hj with
    | 0, _ =>
      rw [show catN l1 l2 0 = 0 from rfl]
      simp only [Int.natCast_zero]
      go_wp2_with fail
      refine ⟨⟨1, by omega, rfl, by go_num, trivial⟩, by simp [intOf]⟩
    | 1, _ =>
      have d0 : decide ((l1.length : Int) + l2.length < 0) = false := decide_eq_false (by omega)
      rw [show catN l1 l2 1 = l1.length from rfl]
      simp only [Int.natCast_one]
      go_wp2_with fail
      refine ⟨⟨2, by omega, rfl, by rw [show catN l1 l2 2 = l1.length + l2.length from rfl]; go_num, trivial⟩, by simp [intOf]⟩
    | 2, _ =>
      rw [show catN l1 l2 2 = l1.length + l2.length from rfl]
      obtain ⟨wo, rfl⟩ : ∃ wo : World, wo = wr := ⟨_, rfl⟩
      have hG := growLk_c (l1.length + l2.length) (by omega) wo
      have e2 : ((2 : Nat) : Int) = 2 := rfl
      rw [e2]
      go_wp2_with fail
      refine hG.mono ?_
      rintro e W1 ⟨v0, rfl, hO, hB⟩
      have y0 := (hB.block _ zk).trans h0
      have HB := Lib.hid hB
      have hzz := hB.size
      clear hG x0 x1 hB h0
      go_wp2_with fail
      go_loopw [6, 27] (fun s i wx => ∃ j : Nat, j ≤ 2 ∧ i = .int .i64 j ∧ wx.ownsRow wo.heap.size 90 5 s (catL l1 l2 j).length ((catL l1 l2 j).flatMap lkC) ∧ Below wo.heap.size wo wx ∧ wx.heap[k]? = some (.cells #[.slice A1 l1.length c1, .slice A2 l2.length c2] 22)) (fun _ i _ => 2 - (intOf i).toNat)
      case atStart => exact ⟨0, by omega, rfl, hO, HB.out, y0⟩
      case round =>
        obtain ⟨j, hj, rfl, hown, hbw, hk⟩ := hrel
        have hsz := hbw.size
        have x0 := Joins.cell_of_block hk 0
        have x1 := Joins.cell_of_block hk 1
        match j, hj with
        | 0, _ =>
          rw [show catL l1 l2 0 = [] from rfl] at hown
          simp only [Int.natCast_zero]
          cases A1 with
          | none =>
            have hnil : Hid (l1 = []) := by
              show l1 = []
              rcases l1 with _ | ⟨x, l⟩
              · rfl
              · obtain ⟨A', c', e, _, _, h3⟩ := H1.out
                obtain ⟨b, off, e2, _⟩ := h3 (by simp)
                simp only [Value.slice.injEq] at e
                rw [e2] at e; cases e.1
            have HR : ∀ ty : TypeId, (Builtin.append_ #[22, 22] ty #[u6, .slice none l1.length c1]).run Tryz.prog wr = .ok u6 wr := fun ty => by rw [hnil.out]; exact run_append_nothing0 (P := Tryz.prog) wo.heap.size 22 ty 90 i0 5 c1 Tryz.underlying22 HI.out _ _ _ hown
            go_wp2_with (at_builtin; refine Lib.wpList_append_run wr rfl _ _ _ _ rfl u6 (.slice none l1.length c1) rfl rfl u6 wr (HR _) ?_)
            go_roundw
            case rel => exact ⟨1, by omega, rfl, by rw [show catL l1 l2 1 = l1 from rfl, hnil.out]; exact hown, hbw, hk⟩
            case measure => simp [intOf]
          | some ad =>
            have hnews := look_cells (H1.out.later hbw)
            have hlt := hown.lt
            go_wp2_with (at_builtin; refine wpList_append_own _ rfl _ _ 22 rfl wo.heap.size 90 i0 (.agg #[.int .i64 0, .int .i64 0, .int .i64 0, .int .i64 0, .int .i64 0]) 5 40 Tryz.underlying22 HI.out HI0.out HI1.out HI2.out rfl (by decide) _ _ _ rfl hown ad l1.length c1 (l1.flatMap lkC) rfl (flat_length lkC_len l1) hnews (look_one l1) ?c3 ?c4 ?c5 ?_)
            case c3 => unfold maxLen; simp; omega
            case c4 => simp; omega
            case c5 => exact hsz
            intro v' w1 hown' hgrow _
            have hB1 : Below wo.heap.size wo w1 := below_own hbw hsz hown hgrow
            have hk1 : w1.heap[k]? = _ := (hgrow.block k (size_of_block hk) (fun e => by have := hlt k e.symm; omega)).trans hk
            clear hgrow hown hnews hlt
            go_wp2_with fail
            refine ⟨⟨1, by omega, rfl, by rw [show catL l1 l2 1 = l1 from rfl]; simpa using hown', hB1, hk1⟩, by simp [intOf]⟩
        | 1, _ =>
          rw [show catL l1 l2 1 = l1 from rfl] at hown
          simp only [Int.natCast_one]
          cases A2 with
          | none =>
            have hnil : Hid (l2 = []) := by
              show l2 = []
              rcases l2 with _ | ⟨x, l⟩
              · rfl
              · obtain ⟨A', c', e, _, _, h3⟩ := H2.out
                obtain ⟨b, off, e2, _⟩ := h3 (by simp)
                simp only [Value.slice.injEq] at e
                rw [e2] at e; cases e.1
            have HR : ∀ ty : TypeId, (Builtin.append_ #[22, 22] ty #[u6, .slice none l2.length c2]).run Tryz.prog wr = .ok u6 wr := fun ty => by rw [hnil.out]; exact run_append_nothing0 (P := Tryz.prog) wo.heap.size 22 ty 90 i0 5 c2 Tryz.underlying22 HI.out _ _ _ hown
            go_wp2_with (at_builtin; refine Lib.wpList_append_run wr rfl _ _ _ _ rfl u6 (.slice none l2.length c2) rfl rfl u6 wr (HR _) ?_)
            go_roundw
            case rel => exact ⟨2, by omega, rfl, by rw [show catL l1 l2 2 = l1 ++ l2 from rfl, hnil.out, List.append_nil]; exact hown, hbw, hk⟩
            case measure => simp [intOf]
          | some ad =>
            have hnews := look_cells (H2.out.later hbw)
            have hlt := hown.lt
            go_wp2_with (at_builtin; refine wpList_append_own _ rfl _ _ 22 rfl wo.heap.size 90 i0 (.agg #[.int .i64 0, .int .i64 0, .int .i64 0, .int .i64 0, .int .i64 0]) 5 40 Tryz.underlying22 HI.out HI0.out HI1.out HI2.out rfl (by decide) _ _ _ rfl hown ad l2.length c2 (l2.flatMap lkC) rfl (flat_length lkC_len l2) hnews (look_one l2) ?c3 ?c4 ?c5 ?_)
            case c3 => unfold maxLen; omega
            case c4 => omega
            case c5 => exact hsz
            intro v' w1 hown' hgrow _
            have hB1 : Below wo.heap.size wo w1 := below_own hbw hsz hown hgrow
            have hk1 : w1.heap[k]? = _ := (hgrow.block k (size_of_block hk) (fun e => by have := hlt k e.symm; omega)).trans hk
            clear hgrow hown hnews hlt
            go_wp2_with fail
            refine ⟨⟨2, by omega, rfl, by rw [show catL l1 l2 2 = l1 ++ l2 from rfl, List.length_append, List.flatMap_append]; exact hown', hB1, hk1⟩, by simp [intOf]⟩
        | 2, _ =>
          rw [show catL l1 l2 2 = l1 ++ l2 from rfl] at hown
          have e2 : ((2 : Nat) : Int) = 2 := rfl
          rw [e2]
          go_wp2_with fail
          go_ret
          exact ⟨_, rfl, hown, hbw⟩
        | j + 3, h => omega
    | j + 3, h => omega
end Go.Proofs.YtjpoacffnpgjdaaGreat
