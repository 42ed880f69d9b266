/- Bins of package sample: a new one, and the last sample taken back. -/
import Derived.Test.YtaaeipjnhjgjdaaZ3BinA
import Derived.Test.YtaaeipjnhjgjdaaJ20
import Derived.Test.YtaaeipjnhjgjdaaJ12
namespace Go.Proofs.Ytaaeipjnhjgjdaa
open Go Go.RowKit

set_option maxHeartbeats 1600000 in
set_option maxRecDepth 100000 in
theorem New_c (b : Bt) (w : World) : Calls Try.prog 42 #[btV b] w fun e w' =>
    (checkB b ≠ 0 ∧ e = .returned (.tuple #[.pointer none, .int .i64 (checkB b)]) ∧ Below w.heap.size w w') ∨
    (checkB b = 0 ∧ ∃ g, w.heap.size ≤ g ∧ e = .returned (.tuple #[.pointer (some ⟨g, 0, none⟩), .int .i64 0]) ∧ BinIs w' g b (.slice none 0 0) ∧ Below w.heap.size w w' ∧ g < w'.heap.size) := by
  by_cases hc : checkB b = 0
  · have hC := fun w => Check_c b w
    rw [hc] at hC
    have HC := Lib.hid hC
    have H0 := Lib.hid hc
    clear hC hc
    unfold btV at HC ⊢
    go_enter Try.func42, Try.ntmps42
    go_wp2_with fail
    refine (HC.out _).mono ?_
    rintro e w1 ⟨rfl, hb1⟩
    have hq := (hb1.block w.heap.size (by simp)).trans (heap_alloc_new w (.cells #[.int .i64 b.n, .int .i64 b.s.a, .int .i64 b.s.b, .int .i64 b.s.c, .int .i64 b.k0.lo, .int .i64 b.k0.hi, .int .i64 b.k1.lo, .int .i64 b.k1.hi, .int .i64 b.k2.lo, .int .i64 b.k2.hi] 34))
    have hB := below_then (below_alloc _ _) hb1
    have hz := size_of_block hq
    clear hb1
    have c0 := Joins.cell_of_block hq 0
    have c1 := Joins.cell_of_block hq 1
    have c2 := Joins.cell_of_block hq 2
    have c3 := Joins.cell_of_block hq 3
    have c4 := Joins.cell_of_block hq 4
    have c5 := Joins.cell_of_block hq 5
    have c6 := Joins.cell_of_block hq 6
    have c7 := Joins.cell_of_block hq 7
    have c8 := Joins.cell_of_block hq 8
    have c9 := Joins.cell_of_block hq 9
    go_wp2_with fail
    refine bodyPost_ret (v := .tuple #[.pointer (some ⟨w1.heap.size, 0, none⟩), .int .i64 0]) ?_ rfl (.inr ⟨H0.out, w1.heap.size, hB.size, rfl, heap_alloc_new w1 _, below_then hB (below_alloc _ _), by simp⟩)
    simp [results, Try.results42, go_sem]
  · have hC := fun w => Check_c b w
    have d1 : (checkB b != 0) = true := by simpa using hc
    have HC := Lib.hid hC
    have H0 := Lib.hid hc
    clear hC hc
    unfold btV at HC ⊢
    go_enter Try.func42, Try.ntmps42
    go_wp2_with fail
    refine (HC.out _).mono ?_
    rintro e w1 ⟨rfl, hb1⟩
    have hB := below_then (below_alloc _ _) hb1
    go_wp2_with fail
    refine bodyPost_ret (v := .tuple #[.pointer none, .int .i64 (checkB b)]) ?_ rfl (.inl ⟨H0.out, rfl, hB⟩)
    simp [results, Try.results42, go_sem]
/-- All blocks but g and a row of its own stay. -/
structure FrameB (w w' : World) (g : Nat) (row : Option Nat) : Prop where
  os : w'.os = w.os
  tape : w'.tape = w.tape
  output : w'.output = w.output
  size : w.heap.size ≤ w'.heap.size
  block : ∀ k, k < w.heap.size → k ≠ g → row ≠ some k → w'.heap[k]? = w.heap[k]?
theorem FrameB.below {B g : Nat} {row : Option Nat} {w0 w w' : World} (h : FrameB w w' g row) (hb : Below B w0 w) (hg : B ≤ g) (hB : B ≤ w.heap.size) (hr : ∀ k, row = some k → B ≤ k) : Below B w0 w' :=
  hb.trans ⟨h.os, h.tape, h.output, h.size, fun k hk => h.block k (by omega) (by omega) (fun e => by have := hr k e; omega)⟩
theorem drop_flat (x : K3) (D : List K3) : ((x :: D).flatMap k3C).take (D.length * 3) = (x :: D).dropLast.flatMap k3C := by
  have e : (x :: D) = (x :: D).dropLast ++ [(x :: D).getLast (by simp)] := (List.dropLast_concat_getLast (by simp)).symm
  have h : ((x :: D).flatMap k3C) = (x :: D).dropLast.flatMap k3C ++ [(x :: D).getLast (by simp)].flatMap k3C := by
    rw [← List.flatMap_append, ← e]
  rw [h, List.take_left']
  rw [flat_length k3C_len, List.length_dropLast]
  simp
set_option maxHeartbeats 1600000 in
set_option maxRecDepth 100000 in
theorem Back_c (b : Bt) (D : List K3) (g B0 : Nat) (v : Value) (w : World) (hg : BinIs w g b v) (ho : w.ownsRow B0 23 3 v D.length (D.flatMap k3C)) :
    Calls Try.prog 43 #[.pointer (some ⟨g, 0, none⟩)] w fun e w' => (D = [] ∧ e = .returned (.int .i64 4) ∧ w' = w) ∨
      (D ≠ [] ∧ e = .returned (.int .i64 0) ∧ ∃ v', BinIs w' g b v' ∧ w'.ownsRow B0 23 3 v' (D.length - 1) (D.dropLast.flatMap k3C) ∧ FrameB w w' g none ∧ v'.ownBlock = v.ownBlock) := by
  have zg := size_of_block hg
  cases D with
  | nil =>
    obtain ⟨A, cap, rfl⟩ := own_form ho
    have ca := Joins.cell_of_block hg 10
    go_enter Try.func43, Try.ntmps43
    go_wp2_with fail
    go_ret
    exact .inl ⟨trivial, rfl, rfl⟩
  | cons x D =>
    rcases ho.2 with ⟨_, h0⟩ | ⟨gd, cap, cur, rfl, hgd, hcur, hcap, hmax, hsz, htk⟩
    · simp at h0
    have ca := Joins.cell_of_block hg 10
    have fa := Joins.unfrozen_of_block hg 10
    have hl : ((x :: D).length : Int) - 1 = (D.length : Int) := by simp
    have hn : (x :: D).length = D.length + 1 := rfl
    rw [hn] at hcap hl
    have hd1 : (D.length : Int) ≤ 9223372036854775806 := by unfold maxLen at hmax; omega
    have hd2 : D.length ≤ cap := by omega
    have hd3 : ¬ ((D.length : Int) < 0) := by omega
    have HG := Lib.hid hg
    have HO := Lib.hid ho
    have HT := Lib.hid htk
    clear hg ho htk
    go_enter Try.func43, Try.ntmps43
    have hne : gd ≠ g := fun e => by
      subst e
      have h1 := hcur.symm.trans HG.out
      simp at h1
    go_wp2_with fail
    refine bodyPost_ret (v := .int .i64 0) ?_ rfl ⟨rfl, .slice (some ⟨gd, 0, none⟩) D.length cap, ?_, ?_, ?_, rfl⟩
    · simp [results, Try.results43, go_sem]
    · exact Joins.block_setCell (i := 10) HG.out _
    · refine ⟨?_, .inr ⟨gd, cap, cur, rfl, hgd, (Below.heap_setCell w ⟨g, 10, none⟩ _ gd hne).trans hcur, hd2, hmax, hsz, ?_⟩⟩
      · rw [flat_length k3C_len, List.length_dropLast]; simp
      · rw [← drop_flat x D, ← HT.out, List.take_take, hn]
        congr 1
        omega
    · exact ⟨rfl, rfl, rfl, by simp, fun k _ hk _ => Below.heap_setCell w ⟨g, 10, none⟩ _ k hk⟩
end Go.Proofs.Ytaaeipjnhjgjdaa
