/- Bins of package sample: what stands in one, and its batch. -/
import Derived.Test.YtaaeipjnhjgjdaaJ28
import Derived.Test.YtaaeipjnhjgjdaaJ11
import Derived.Test.YtaaeipjnhjgjdaaZ3MathF
namespace Go.Proofs.Ytaaeipjnhjgjdaa
open Go Go.RowKit

def foldB (b : Bt) (D : List K3) : Bt := D.foldl addB b
theorem foldB_snoc (b : Bt) (D : List K3) (x : K3) : foldB b (D ++ [x]) = addB (foldB b D) x := by simp [foldB]
theorem foldB_take {b : Bt} {D : List K3} {j : Nat} {x : K3} (h : D[j]? = some x) : foldB b (D.take (j + 1)) = addB (foldB b (D.take j)) x := by
  rw [take_snoc h, foldB_snoc]
/-- What was drawn, one behind the other, was all right. -/
def okBin (b : Bt) (D : List K3) : Prop := ∀ j, j ≤ D.length → checkB (foldB b (D.take j)) = 0
/-- The bin in block g: its first batch, and what was drawn, in memory that is told by K. -/
def BinIs (w : World) (g : Nat) (b : Bt) (v : Value) : Prop := w.heap[g]? = some (.cells (#[.int .i64 b.n, .int .i64 b.s.a, .int .i64 b.s.b, .int .i64 b.s.c, .int .i64 b.k0.lo, .int .i64 b.k0.hi, .int .i64 b.k1.lo, .int .i64 b.k1.hi, .int .i64 b.k2.lo, .int .i64 b.k2.hi, v]) 145)
theorem okBin_parts {b : Bt} {D : List K3} (ok : okBin b D) {j : Nat} {x : K3} (h : D[j]? = some x) (hx : 0 ≤ x.a ∧ 0 ≤ x.b ∧ 0 ≤ x.c) :
    (0 ≤ (foldB b (D.take j)).s.a ∧ (foldB b (D.take j)).s.a ≤ 50 ∧ 0 ≤ (foldB b (D.take j)).s.b ∧ (foldB b (D.take j)).s.b ≤ 50 ∧ 0 ≤ (foldB b (D.take j)).s.c ∧ (foldB b (D.take j)).s.c ≤ 50) ∧ (0 ≤ x.a ∧ x.a ≤ 50 ∧ 0 ≤ x.b ∧ x.b ≤ 50 ∧ 0 ≤ x.c ∧ x.c ≤ 50) := by
  have hj := (List.getElem?_eq_some_iff.1 h).1
  have n1 := right_n (check_ok (ok j (by omega))).1
  have n2 := right_n (check_ok (ok (j + 1) (by omega))).1
  rw [foldB_take h] at n2
  have e1 : (addB (foldB b (D.take j)) x).s.a = (foldB b (D.take j)).s.a + x.a := rfl
  have e2 : (addB (foldB b (D.take j)) x).s.b = (foldB b (D.take j)).s.b + x.b := rfl
  have e3 : (addB (foldB b (D.take j)) x).s.c = (foldB b (D.take j)).s.c + x.c := rfl
  obtain ⟨a1, a2, a3, a4, a5, a6, a7, a8⟩ := n1
  obtain ⟨c1, c2, c3, c4, c5, c6, c7, c8⟩ := n2
  rw [c7, e1, e2, e3] at c8
  rw [a7] at a8
  have : (addB (foldB b (D.take j)) x).n = (foldB b (D.take j)).n := rfl
  omega
set_option maxHeartbeats 1600000 in
set_option maxRecDepth 100000 in
theorem each_c (b : Bt) (D : List K3) (g q : Nat) (v : Value) (w : World) (hg : BinIs w g b v) (hD : K3s w q v D) (_ : g < q) (hq : w.heap[q]? = some (.cells (btC b) 147)) (ok : okBin b D) (hpos : ∀ x ∈ D, 0 ≤ x.a ∧ 0 ≤ x.b ∧ 0 ≤ x.c) :
    Calls Try.prog 105 #[.pointer (some ⟨g, 0, none⟩), .func (.func 106) #[.pointer (some ⟨q, 0, none⟩)] #[]] w fun e w' => (∃ u, e = .returned u) ∧ w'.heap[q]? = some (.cells (btC (foldB b D)) 147) ∧ Below q w w' := by
  obtain ⟨A, cap, rfl, _⟩ := K3s.open_ hD
  have ca := Joins.cell_of_block hg 10
  have zg := size_of_block hg
  go_enter Try.func105, Try.ntmps105
  go_wp2_with fail
  go_loopw [11] (fun i wr => ∃ j : Nat, j ≤ D.length ∧ i = .int .i64 j ∧ wr.heap[q]? = some (.cells (btC (foldB b (D.take j))) 147) ∧ Below q w wr) (fun i _ => D.length - (intOf i).toNat)
  case atStart => exact ⟨0, by omega, rfl, by simpa [foldB] using hq, Below.refl _ _⟩
  case round =>
    obtain ⟨j, hj, rfl, hqj, hB⟩ := hrel
    by_cases hlt : j < D.length
    · have dlt : decide ((j : Int) < (D.length : Int)) = true := decide_eq_true (by omega)
      have hDr := hD.below hB
      obtain ⟨A2, cap2, e2, _, _, k3⟩ := K3s.open_ hDr
      cases e2
      obtain ⟨kb, koff, x, rfl, kB, kX, kc0, kc1, kc2⟩ := k3 j hlt
      have ok2 := okBin_parts ok kX (hpos x (List.mem_of_getElem? kX))
      have zq := size_of_block hqj
      have OK2 := Lib.hid ok2
      have HF := Lib.hid (foldB_take (b := b) kX)
      clear ok2 k3
      go_wp2_with fail
      refine (add_c (foldB b (D.take j)) x q _ ?_ OK2.out.1 OK2.out.2).mono ?_
      · exact (Below.heap_alloc _ _ _ (by omega)).trans hqj
      · rintro e w9 ⟨⟨u, rfl⟩, hq9, hb9⟩
        have hB9 : Below q w w9 := (hB.alloc (by omega) _).trans hb9
        clear hb9
        go_wp2_with fail
        go_roundw
        case rel => exact ⟨j + 1, by omega, by go_num, by rw [HF.out]; exact hq9, hB9⟩
        case measure => simp [intOf]; omega
    · obtain rfl : j = D.length := by omega
      rw [List.take_length] at hqj
      have dlt : decide ((D.length : Int) < (D.length : Int)) = false := decide_eq_false (by omega)
      go_wp2_with fail
      refine bodyPost_end (results_none rfl _ _ _) rfl ⟨⟨_, rfl⟩, hqj, hB⟩
set_option maxHeartbeats 1600000 in
set_option maxRecDepth 100000 in
theorem Batch_t (b : Bt) (D : List K3) (g : Nat) (v : Value) (w : World) (hg : BinIs w g b v) (hD : K3s w w.heap.size v D) (ok : okBin b D) (hpos : ∀ x ∈ D, 0 ≤ x.a ∧ 0 ≤ x.b ∧ 0 ≤ x.c) :
    Calls Try.prog 46 #[.pointer (some ⟨g, 0, none⟩)] w fun e w' => e = .returned (btV (foldB b D)) ∧ Below w.heap.size w w' := by
  obtain ⟨A, cap, rfl, _⟩ := K3s.open_ hD
  have c0 := Joins.cell_of_block hg 0
  have c1 := Joins.cell_of_block hg 1
  have c2 := Joins.cell_of_block hg 2
  have c3 := Joins.cell_of_block hg 3
  have c4 := Joins.cell_of_block hg 4
  have c5 := Joins.cell_of_block hg 5
  have c6 := Joins.cell_of_block hg 6
  have c7 := Joins.cell_of_block hg 7
  have c8 := Joins.cell_of_block hg 8
  have c9 := Joins.cell_of_block hg 9
  have zg := size_of_block hg
  go_enter Try.func46, Try.ntmps46
  go_wp2_with fail
  have hb0 := below_alloc w (.cells #[.int .i64 0, .int .i64 0, .int .i64 0, .int .i64 0, .int .i64 0, .int .i64 0, .int .i64 0, .int .i64 0, .int .i64 0, .int .i64 0] 34)
  have hb1 := below_alloc (w.alloc (.cells #[.int .i64 0, .int .i64 0, .int .i64 0, .int .i64 0, .int .i64 0, .int .i64 0, .int .i64 0, .int .i64 0, .int .i64 0, .int .i64 0] 34)) (.cells #[.int .i64 b.n, .int .i64 b.s.a, .int .i64 b.s.b, .int .i64 b.s.c, .int .i64 b.k0.lo, .int .i64 b.k0.hi, .int .i64 b.k1.lo, .int .i64 b.k1.hi, .int .i64 b.k2.lo, .int .i64 b.k2.hi] 147)
  have hq := heap_alloc_new (w.alloc (.cells #[.int .i64 0, .int .i64 0, .int .i64 0, .int .i64 0, .int .i64 0, .int .i64 0, .int .i64 0, .int .i64 0, .int .i64 0, .int .i64 0] 34)) (.cells #[.int .i64 b.n, .int .i64 b.s.a, .int .i64 b.s.b, .int .i64 b.s.c, .int .i64 b.k0.lo, .int .i64 b.k0.hi, .int .i64 b.k1.lo, .int .i64 b.k1.hi, .int .i64 b.k2.lo, .int .i64 b.k2.hi] 147)
  have hr := (Below.heap_alloc (w.alloc (.cells #[.int .i64 0, .int .i64 0, .int .i64 0, .int .i64 0, .int .i64 0, .int .i64 0, .int .i64 0, .int .i64 0, .int .i64 0, .int .i64 0] 34)) (.cells #[.int .i64 b.n, .int .i64 b.s.a, .int .i64 b.s.b, .int .i64 b.s.c, .int .i64 b.k0.lo, .int .i64 b.k0.hi, .int .i64 b.k1.lo, .int .i64 b.k1.hi, .int .i64 b.k2.lo, .int .i64 b.k2.hi] 147) w.heap.size (by simp)).trans (heap_alloc_new w (.cells #[.int .i64 0, .int .i64 0, .int .i64 0, .int .i64 0, .int .i64 0, .int .i64 0, .int .i64 0, .int .i64 0, .int .i64 0, .int .i64 0] 34))
  have hBB := below_then hb0 hb1
  rw [World.size_alloc] at hq
  generalize ((w.alloc _).alloc _) = W1 at hq hr hBB ⊢
  have hg1 : BinIs W1 g b (.slice A D.length cap) := (hBB.block g zg).trans hg
  have hD1 : K3s W1 (w.heap.size + 1) (.slice A D.length cap) D := (hD.below hBB).more (by omega)
  have zq := size_of_block hq
  refine (each_c b D g (w.heap.size + 1) _ W1 hg1 hD1 (by omega) hq ok hpos).mono ?_
  rintro e W2 ⟨⟨u, rfl⟩, hq2, hb2⟩
  have hr2 := (hb2.block w.heap.size (by omega)).trans hr
  have hB2 : Below w.heap.size w W2 := hBB.trans (hb2.mono (by omega))
  clear hb0 hb1 hBB hb2 hq hr hg1 hD1 zq
  obtain ⟨X, hX⟩ : ∃ X, X = foldB b D := ⟨_, rfl⟩
  rw [← hX] at hq2
  have HX := Lib.hid hX
  clear hX
  have r0 : W2.cell? ⟨w.heap.size + 1, 0, none⟩ = some (.int .i64 X.n) := Joins.cell_of_block hq2 0
  have r1 : W2.cell? ⟨w.heap.size + 1, 1, none⟩ = some (.int .i64 X.s.a) := Joins.cell_of_block hq2 1
  have r2 : W2.cell? ⟨w.heap.size + 1, 2, none⟩ = some (.int .i64 X.s.b) := Joins.cell_of_block hq2 2
  have r3 : W2.cell? ⟨w.heap.size + 1, 3, none⟩ = some (.int .i64 X.s.c) := Joins.cell_of_block hq2 3
  have r4 : W2.cell? ⟨w.heap.size + 1, 4, none⟩ = some (.int .i64 X.k0.lo) := Joins.cell_of_block hq2 4
  have r5 : W2.cell? ⟨w.heap.size + 1, 5, none⟩ = some (.int .i64 X.k0.hi) := Joins.cell_of_block hq2 5
  have r6 : W2.cell? ⟨w.heap.size + 1, 6, none⟩ = some (.int .i64 X.k1.lo) := Joins.cell_of_block hq2 6
  have r7 : W2.cell? ⟨w.heap.size + 1, 7, none⟩ = some (.int .i64 X.k1.hi) := Joins.cell_of_block hq2 7
  have r8 : W2.cell? ⟨w.heap.size + 1, 8, none⟩ = some (.int .i64 X.k2.lo) := Joins.cell_of_block hq2 8
  have r9 : W2.cell? ⟨w.heap.size + 1, 9, none⟩ = some (.int .i64 X.k2.hi) := Joins.cell_of_block hq2 9
  have HR := Lib.hid (fun j : Nat => cell_setRow_same _ w.heap.size j _ #[.int .i64 X.n, .int .i64 X.s.a, .int .i64 X.s.b, .int .i64 X.s.c, .int .i64 X.k0.lo, .int .i64 X.k0.hi, .int .i64 X.k1.lo, .int .i64 X.k1.hi, .int .i64 X.k2.lo, .int .i64 X.k2.hi] _ _ hr2)
  clear c0 c1 c2 c3 c4 c5 c6 c7 c8 c9
  go_wp2_with (refine wpList_store_rowTo rfl 34 _ _ rfl rfl w.heap.size #[.int .i64 X.n, .int .i64 X.s.a, .int .i64 X.s.b, .int .i64 X.s.c, .int .i64 X.k0.lo, .int .i64 X.k0.hi, .int .i64 X.k1.lo, .int .i64 X.k1.hi, .int .i64 X.k2.lo, .int .i64 X.k2.hi] rfl rfl 34 _ hr2 (by kernel_rfl) rfl (by kernel_rfl) ?_)
  refine bodyPost_ret (v := btV X) ?_ rfl ⟨by rw [HX.out], below_setRow hB2 (Nat.le_refl _) _⟩
  simp [btV, results, Try.results46, go_sem, HR.out]
end Go.Proofs.Ytaaeipjnhjgjdaa
