/- under, within and the reference's Burn. -/
import Derived.Test.YtmiglaeabpaofaaZFLawK
import Derived.Test.YtmiglaeabpaofaaJ2
import Derived.Test.YtmiglaeabpaofaaJ18
import Derived.Test.YtmiglaeabpaofaaJ7
import Derived.Lib.MinMax
namespace Go.Proofs.Ytmiglaeabpaofaa
open Go Go.RowKit Go.Shelf
attribute [local go_sem] Oper.semAt_some Rel RelAt RelUpon

theorem under_t (a b : Brn) (w : World) (h : underP a b) : Calls Try.prog 28 #[brnV a, brnV b] w fun e w' => e = .returned (.bool true) ∧ Below w.heap.size w w' := by
  obtain ⟨⟨h1, h2⟩, h3, h4⟩ := h
  have d1 : decide (a.hours ≤ b.hours) = true := decide_eq_true h1
  have d2 : decide (a.row ≤ b.row) = true := decide_eq_true h2
  have d3 : decide (a.sum ≤ b.sum) = true := decide_eq_true h3
  have d4 : decide (a.row ≤ a.hours) = true := decide_eq_true h4
  clear h1 h2 h3 h4
  obtain ⟨q0, q1, -, qb⟩ := two_new' w (.cells #[.int .i64 a.hours, .int .i64 a.row, .int .i64 a.sum] 60) (.cells #[.int .i64 b.hours, .int .i64 b.row, .int .i64 b.sum] 60)
  have c0 := Joins.cell_of_block q0 0
  have c1 := Joins.cell_of_block q0 1
  have c2 := Joins.cell_of_block q0 2
  have e0 := Joins.cell_of_block q1 0
  have e1 := Joins.cell_of_block q1 1
  have e2 := Joins.cell_of_block q1 2
  clear q0 q1
  go_enter Try.func28, Try.ntmps28
  go_wp2_with fail
  go_ret
  exact ⟨rfl, qb⟩
set_option maxRecDepth 100000 in
theorem within_c (v : Value) (l : List Spn) (n : Int) (w : World) (hv : Spns w w.heap.size v l) : Calls Try.prog 29 #[v, .int .i64 n] w fun e w' => e = .returned (.bool (withinB l n)) ∧ Below w.heap.size w w' := by
  obtain ⟨A, cap, rfl, _, hn, hat⟩ := hv.open_
  have H := Lib.hid hat
  clear hat hv
  obtain ⟨B, hB⟩ : ∃ b, b = withinB l n := ⟨_, rfl⟩
  rw [← hB]
  have HB := Lib.hid hB
  clear hB
  go_enter Try.func29, Try.ntmps29
  go_wp2_with fail
  go_loopw [5] (fun i wr => ∃ j : Nat, j ≤ l.length ∧ i = .int .i64 j ∧ Hid (∀ x ∈ l.take j, (decide (x.lo ≤ n) && decide (n ≤ x.hi)) = false) ∧ Below w.heap.size w wr) (fun i _ => l.length - (intOf i).toNat)
  case atStart => exact ⟨0, Nat.zero_le _, rfl, by intro x hx; simp at hx, Below.refl _ _⟩
  case round =>
    obtain ⟨j, hj, rfl, hI, hbw⟩ := hrel
    by_cases hlt : j < l.length
    · obtain ⟨b, off, x, rfl, hb, hx0, x0, x1⟩ := H.out j hlt
      have c0 := (hbw.cell (p := ⟨b, off + j * 2, none⟩) hb).trans x0
      have c1 := (hbw.cell (p := ⟨b, off + j * 2 + 1, none⟩) hb).trans x1
      have hx := Lib.hid hx0
      clear hx0 x0 x1
      by_cases h1 : x.lo ≤ n
      · have d1 : decide (x.lo ≤ n) = true := decide_eq_true h1
        by_cases h2 : n ≤ x.hi
        · have d2 : decide (n ≤ x.hi) = true := decide_eq_true h2
          obtain rfl : B = true := by
            rw [HB.out]; unfold withinB
            exact List.any_eq_true.2 ⟨x, List.mem_of_getElem? hx.out, by rw [d1, d2]; rfl⟩
          clear h1 h2
          go_wp2_with fail
          go_ret
          exact ⟨rfl, hbw⟩
        · have d2 : decide (n ≤ x.hi) = false := decide_eq_false h2
          have hn1 : Hid (∀ y ∈ l.take (j + 1), (decide (y.lo ≤ n) && decide (n ≤ y.hi)) = false) := by
            intro y hy
            rw [take_snoc hx.out, List.mem_append, List.mem_singleton] at hy
            rcases hy with hy | rfl
            · exact hI.out y hy
            · rw [d1, d2]; rfl
          clear h1 h2
          go_wp2_with fail
          go_roundw
          case rel => exact ⟨j + 1, by omega, by go_num, hn1.out, hbw⟩
          case measure => simp [intOf]; omega
      · have d1 : decide (x.lo ≤ n) = false := decide_eq_false h1
        have hn1 : Hid (∀ y ∈ l.take (j + 1), (decide (y.lo ≤ n) && decide (n ≤ y.hi)) = false) := by
          intro y hy
          rw [take_snoc hx.out, List.mem_append, List.mem_singleton] at hy
          rcases hy with hy | rfl
          · exact hI.out y hy
          · rw [d1]; rfl
        clear h1
        go_wp2_with fail
        go_roundw
        case rel => exact ⟨j + 1, by omega, by go_num, hn1.out, hbw⟩
        case measure => simp [intOf]; omega
    · obtain rfl : j = l.length := by omega
      obtain rfl : B = false := by
        rw [HB.out]; unfold withinB
        rw [List.any_eq_false]
        intro x hx
        have := hI.out x (by rw [List.take_length]; exact hx)
        rw [this]; simp
      go_wp2_with fail
      go_ret
      exact ⟨rfl, hbw⟩
theorem burn_row (need : Int) (l : List Int) : 0 ≤ (burnF need l).row ∧ (burnF need l).row ≤ l.length ∧ 0 ≤ (burnF need l).b.row ∧ (burnF need l).b.row ≤ l.length := by
  refine snoc_ind (M := fun l => 0 ≤ (burnF need l).row ∧ (burnF need l).row ≤ l.length ∧ 0 ≤ (burnF need l).b.row ∧ (burnF need l).b.row ≤ l.length) (by simp [burnF]) (fun l x ih => ?_) l
  rw [burnF_snoc, List.length_append]
  unfold burnStep
  simp only [List.length_cons, List.length_nil]
  by_cases c : x < need
  · rw [if_pos c]; dsimp only; omega
  · rw [if_neg c]; dsimp only; omega
set_option maxRecDepth 100000 in
set_option maxHeartbeats 4000000 in
theorem BurnR_c (v : Value) (hs : List Int) (need : Int) (w : World) (hv : Ints w w.heap.size v hs) (hlen : hs.length ≤ 5000) (hr : ∀ x ∈ hs, 0 ≤ x ∧ x ≤ 1500) (hn : 0 ≤ need ∧ need ≤ 1500) :
    Calls Try.prog 27 #[v, .int .i64 need] w fun e w' => e = .returned (brnV (burnI hs need)) ∧ Below w.heap.size w w' := by
  obtain ⟨A, cap, rfl, _, hn2, hat⟩ := hv.open_
  have H := Lib.hid hat
  clear hat hv
  have HBD := Lib.hid (fun j : Nat => burn_bounds need hn (hs.take j) fun x hx => hr x (List.mem_of_mem_take hx))
  have HBR := Lib.hid (fun j : Nat => burn_row need (hs.take j))
  have HRI := Lib.hid hr
  clear hr
  obtain ⟨q0, q1, -, qb⟩ := two_new' w (.cells #[.int .i64 0, .int .i64 0, .int .i64 0] 60) (.cells #[.int .i64 0, .int .i64 0, .int .i64 0] 60)
  go_enter Try.func27, Try.ntmps27
  go_wp2_with fail
  generalize (w.alloc _).alloc _ = W2 at q0 q1 qb ⊢
  go_loopw [6, 7] (fun row i wr => ∃ j : Nat, j ≤ hs.length ∧ i = .int .i64 j ∧ row = .int .i64 (burnF need (hs.take j)).row ∧ wr.heap[w.heap.size + 1]? = some (.cells #[.int .i64 (burnF need (hs.take j)).b.hours, .int .i64 (burnF need (hs.take j)).b.row, .int .i64 (burnF need (hs.take j)).b.sum] 60) ∧ wr.heap[w.heap.size]? = some (.cells #[.int .i64 0, .int .i64 0, .int .i64 0] 60) ∧ Below w.heap.size w wr) (fun _ i _ => hs.length - (intOf i).toNat)
  case atStart => exact ⟨0, Nat.zero_le _, rfl, rfl, by simpa [burnF] using q1, q0, qb⟩
  case round =>
    clear q0 q1 qb
    obtain ⟨j, hj, rfl, rfl, hbk, hzb, hbw⟩ := hrel
    have hbd := HBD.out j
    have hbr := HBR.out j
    have zb1 := size_of_block hbk
    by_cases hlt : j < hs.length
    · obtain ⟨b, off, x, rfl, hb, hx0, c0⟩ := H.out j hlt
      have hxr := HRI.out x (List.mem_of_getElem? hx0)
      have d0 := (hbw.cell (p := ⟨b, off + j, none⟩) hb).trans c0
      have hz1 : b < wr.heap.size := Nat.lt_of_lt_of_le hb hbw.size
      have hst : Hid (burnF need (hs.take (j + 1)) = burnStep need (burnF need (hs.take j)) x) := by show _ = _; rw [take_snoc hx0, burnF_snoc]
      have htl : (hs.take j).length = j := by rw [List.length_take]; omega
      rw [htl] at hbd hbr
      clear htl hx0
      obtain ⟨F, hF⟩ : ∃ s, s = burnF need (hs.take j) := ⟨_, rfl⟩
      rw [← hF] at hbd hbr hbk hst ⊢
      clear hF
      obtain ⟨row, ⟨HH, RR, SS⟩⟩ := F
      simp only at hbd hbr hbk ⊢
      obtain ⟨hb1, hb2, hb3, hb4⟩ := hbd
      obtain ⟨hr1, hr2, hr3, hr4⟩ := hbr
      by_cases hc : x < need
      · have d1 : decide (x < need) = true := decide_eq_true hc
        have hz : Hid (burnF need (hs.take (j + 1)) = ⟨0, ⟨HH, RR, SS⟩⟩) := by show _ = _; rw [hst.out]; unfold burnStep; rw [if_pos hc]
        clear hc hst
        go_wp2_with fail
        go_roundw
        case rel => exact ⟨j + 1, by omega, by go_num, by rw [hz.out], by rw [hz.out]; exact hbk, hzb, hbw⟩
        case measure => simp [intOf]; omega
      · have d1 : decide (x < need) = false := decide_eq_false hc
        have hz : Hid (burnF need (hs.take (j + 1)) = ⟨row + 1, ⟨HH + 1, max RR (row + 1), SS + x - need⟩⟩) := by show _ = _; rw [hst.out]; unfold burnStep; rw [if_neg hc]
        have hj5 : (j : Int) ≤ 5000 := by omega
        have n1 : b ≠ w.heap.size + 1 := by omega
        have hmx : 0 ≤ max RR (row + 1) ∧ max RR (row + 1) ≤ 5001 := by omega
        have HMX := Lib.hid hmx
        have k0 := Joins.block_setCell (i := 0) hbk (.int .i64 (HH + 1))
        have k1 := Joins.block_setCell (i := 1) k0 (.int .i64 (max RR (row + 1)))
        have e0 := Joins.cell_of_block hbk 0
        have f0 := Joins.unfrozen_of_block hbk 0
        have e1 := Joins.cell_of_block k0 1
        have f1 := Joins.unfrozen_of_block k0 1
        clear hst hmx
        go_wp2_with fail
        have kz := (put_other (b := w.heap.size + 1) (i := 1) (.int .i64 (max RR (row + 1))) (show w.heap.size ≠ w.heap.size + 1 by omega)).trans ((put_other (b := w.heap.size + 1) (i := 0) (.int .i64 (HH + 1)) (show w.heap.size ≠ w.heap.size + 1 by omega)).trans hzb)
        have B5 := below_set (i := 1) (v := .int .i64 (max RR (row + 1))) (below_set (i := 0) (v := .int .i64 (HH + 1)) hbw (show w.heap.size ≤ w.heap.size + 1 by omega)) (show w.heap.size ≤ w.heap.size + 1 by omega)
        clear e0 f0 e1 f1 k0 hbk hzb hbw d0
        generalize (wr.setCell _ _).setCell _ _ = W5 at k1 kz B5 ⊢
        generalize max RR (row + 1) = M at k1 hz HMX ⊢
        have k2 : W5.heap[w.heap.size + 1]? = some (.cells #[.int .i64 (HH + 1), .int .i64 M, .int .i64 SS] 60) := by simpa using k1
        have zb5 := size_of_block k2
        refine wp_region_looseM [] [0, 1, 2, 3, 4, 5, 6, 7, 8] .done [] [] [9, 10] [] [] (by kernel_rfl) (by kernel_rfl) (by intro c a d v w h; cases d <;> exact h) (by intro c a d v w h; cases d <;> exact h) rfl (fun r i h => by simp at h) ?_
        simp only [pick, List.filterMap_cons, List.filterMap_nil, List.getElem?_toArray, List.getElem?_cons_succ, List.getElem?_cons_zero]
        intro u hu
        have t2 := (hu.block _ zb5).trans k2
        have zt2 := size_of_block t2
        have s2 := Joins.cell_of_block t2 2
        have hbu : b < u.heap.size := by have := hu.size; have := B5.size; omega
        have e0 := (hu.cell (p := ⟨b, off + j, none⟩) (by show b < W5.heap.size; have := B5.size; omega)).trans ((B5.cell (p := ⟨b, off + j, none⟩) hb).trans c0)
        have hcg : ∀ (g : Gr u) b o, b < u.heap.size → g.val.cell? ⟨b, o, none⟩ = u.cell? ⟨b, o, none⟩ := fun g b o h => (bcell g.b).1 b o h
        have hs1 : IntKind.i64.wrap (SS + x) = SS + x := by rw [IntKind.wrap_i64]; omega
        have hs2 : IntKind.i64.wrap (SS + x - need) = SS + x - need := by rw [IntKind.wrap_i64]; omega
        iterate 9 (refine wpRel_step (fun K hK => ?_); go_simp; refine hK _ ?_; clear hK K)
        refine wpRel_nil fun V0 hb0 => ?_
        clear hcg s2 e0 hbu zt2 t2 hs1 hs2
        have D0 := below_then hu hb0
        have v2 := (D0.block _ zb5).trans k2
        have vz := (D0.block _ (size_of_block kz)).trans kz
        have B6 := below_then B5 D0
        clear D0 hu hb0 k1 k2 kz B5 zb5
        have f2 := Joins.unfrozen_of_block v2 2
        have s2 := Joins.cell_of_block v2 2
        have zv := size_of_block v2
        show wpPure _ _ _ _
        intro ks hks _ _
        obtain rfl : ks = [] := List.length_eq_zero_iff.1 hks
        clear hks
        show wpList _ _ _ _ _ _
        simp only [deco]
        go_wp2_with fail
        go_roundw
        case rel =>
          refine ⟨j + 1, by omega, by go_num, by rw [hz.out], ?_, ?_, below_set B6 (by omega)⟩
          · rw [hz.out]
            have k := Joins.block_setCell (i := 2) v2 (.int .i64 (SS + x - need))
            simpa using k
          · exact (put_other _ (by omega)).trans vz
        case measure => simp [intOf]; omega
    · obtain rfl : j = hs.length := by omega
      rw [List.take_length] at hbk
      have e0 := Joins.cell_of_block hbk 0
      have e1 := Joins.cell_of_block hbk 1
      have e2 := Joins.cell_of_block hbk 2
      clear hbd hbr
      have HP := Lib.hid (fun j : Nat => cell_setRow_same wr w.heap.size j _ #[.int .i64 (burnF need hs).b.hours, .int .i64 (burnF need hs).b.row, .int .i64 (burnF need hs).b.sum] _ _ hzb)
      have BF := below_setRow hbw (Nat.le_refl w.heap.size) #[.int .i64 (burnF need hs).b.hours, .int .i64 (burnF need hs).b.row, .int .i64 (burnF need hs).b.sum]
      go_wp2_with (refine wpList_store_rowTo rfl 60 _ _ rfl rfl w.heap.size #[.int .i64 (burnF need hs).b.hours, .int .i64 (burnF need hs).b.row, .int .i64 (burnF need hs).b.sum] rfl rfl 60 _ hzb (by kernel_rfl) rfl (by kernel_rfl) ?_)
      refine bodyPost_ret (v := .agg #[.int .i64 (burnF need hs).b.hours, .int .i64 (burnF need hs).b.row, .int .i64 (burnF need hs).b.sum]) ?_ rfl ⟨rfl, BF⟩
      simp [results, Try.results27, go_sem, HP.out]
end Go.Proofs.Ytmiglaeabpaofaa
