/- The argument `steps` of the law of bins reads as a list of steps; and what lists of drawn samples are like when one is drawn or put back. -/
import Derived.Test.YtaaeipjnhjgjdaaJ10
import Derived.Test.YtaaeipjnhjgjdaaZ3BinD
namespace Go.Proofs.Ytaaeipjnhjgjdaa
open Go.ChangeShapes Go.WideShapes Go.ChangeAt Go.RowKit Go.Deep
/-- The cells of a step: whether a sample is put back or drawn, and the sample. -/
def stepC (s : Bool × K3) : List Value := .bool s.1 :: k3C s.2
instance : Inhabited (Bool × K3) := ⟨(false, ⟨0, 0, 0⟩)⟩
theorem stepC_len (s : Bool × K3) : (stepC s).length = 4 := rfl
section
variable {H : Type} {enc : TypeId × Value → H} {w : World} {base b0 : Nat} {spare : Nat → Bool} {held : Bool} {r : Reach} {v : Value} {d : DataW H} {p : List MemPlace}
theorem step_reader {P : Program} {t : TypeId} {f0 f1 : Field} (n : Nat) (ht : P.underlying t = some (.struct #[f0, f1])) (h0 : P.underlying f0.type = some .bool) (o0 : f0.offset = 0) (n0 : P.cellsOf f0.type = 1) (o1 : f1.offset = 1) (n1 : P.cellsOf f1.type = 3)
    (ha : allInts P n f1.type = true) (fuel : Nat) (cs : List Value) (x : DataW H × List MemPlace) (h : DataW.trod enc P w base spare held fuel t cs = some x) (hl : cs.length = 4) : ∃ s, stepC s = cs := by
  obtain ⟨y0, y1, m, _, _, g0, g1⟩ := trod_struct2 ht h
  obtain ⟨b, hb, _⟩ := DataW.trod_bool h0 g0
  have hi := ints_of_trod n f1.type m _ _ ha g1
  rw [o0, n0] at hb
  rw [o1, n1] at hi
  match cs, hl with
  | [u0, u1, u2, u3], _ =>
    have e0 : u0 = .bool b := by simpa using hb
    obtain ⟨a, e1, _⟩ := hi u1 (by simp)
    obtain ⟨c, e2, _⟩ := hi u2 (by simp)
    obtain ⟨d, e3, _⟩ := hi u3 (by simp)
    subst e0 e1 e2 e3
    exact ⟨(b, ⟨a, c, d⟩), rfl⟩
set_option maxRecDepth 100000 in
theorem open_steps (hval : Value.okWide Try.prog w r b0 62 v) (h : DataW.Trod enc Try.prog w base spare held 62 v d p) : (∃ l : List (Bool × K3), Sl stepC 4 w w.heap.size v l) ∨ ∃ A n cap, v = .slice A n cap ∧ 140737488355328 < n :=
  open_cellsS Try.underlying62 (by kernel_rfl) (by omega) (fun fuel cs x hx hl => step_reader 5 Try.underlying68 (by kernel_rfl) rfl (by kernel_rfl) rfl (by kernel_rfl) (by kernel_rfl) fuel cs x hx hl) hval h
end
/-- A sample that may be drawn has no negative component. -/
theorem sorted_pos {s : K3} (h : sortedB s = true) : 0 ≤ s.a ∧ 0 ≤ s.b ∧ 0 ≤ s.c := by
  simp only [sortedB, Bool.and_eq_true, decide_eq_true_eq] at h
  exact ⟨h.1.1, h.1.2, h.2⟩
/-- What is drawn keeps the bin sound, .. -/
theorem okBin_snoc {b : Bt} {D : List K3} {s : K3} (ok : okBin b D) (h : checkB (addB (foldB b D) s) = 0) : okBin b (D ++ [s]) := by
  intro j hj
  simp only [List.length_append, List.length_singleton] at hj
  rcases Nat.lt_or_ge D.length j with hlt | hge
  · have hj1 : (D ++ [s]).length ≤ j := by simp; omega
    rw [List.take_of_length_le hj1, foldB_snoc]
    exact h
  · rw [List.take_append_of_le_length hge]
    exact ok j hge
/-- .. and so does what is put back. -/
theorem okBin_take {b : Bt} {D : List K3} (ok : okBin b D) (n : Nat) : okBin b (D.take n) := by
  intro j hj
  have hj' : j ≤ D.length := by simp at hj; omega
  have hjn : j ≤ n := by simp at hj; omega
  rw [List.take_take, Nat.min_eq_left hjn]
  exact ok j hj'
theorem okBin_nil {b : Bt} (h : checkB b = 0) : okBin b [] := by
  intro j hj
  simpa [foldB] using h
/-- The batches of a bin: the one that it began with, and one behind each sample. -/
def binL (b : Bt) (D : List K3) : List Bt := (List.range (D.length + 1)).map fun j => foldB b (D.take j)
theorem binL_nil (b : Bt) : binL b [] = [b] := by simp [binL, foldB]
theorem binL_len (b : Bt) (D : List K3) : (binL b D).length = D.length + 1 := by simp [binL]
theorem binL_get {b : Bt} {D : List K3} {j : Nat} (h : j ≤ D.length) : (binL b D)[j]? = some (foldB b (D.take j)) := by
  rw [binL, List.getElem?_map, List.getElem?_range (by omega)]
  rfl
theorem binL_last (b : Bt) (D : List K3) : (binL b D)[D.length]? = some (foldB b D) := by rw [binL_get (Nat.le_refl _), List.take_length]
theorem binL_snoc (b : Bt) (D : List K3) (s : K3) : binL b (D ++ [s]) = binL b D ++ [addB (foldB b D) s] := by
  apply List.ext_getElem?
  intro i
  rcases Nat.lt_or_ge D.length i with hlt | hge
  · rcases Nat.lt_or_ge (D.length + 1) i with h2 | h2
    · rw [List.getElem?_eq_none (by rw [binL_len]; simp; omega), List.getElem?_eq_none (by simp [binL_len]; omega)]
    · obtain rfl : i = D.length + 1 := by omega
      rw [binL_get (by simp), List.getElem?_append_right (by simp [binL_len]), binL_len, Nat.sub_self, List.take_of_length_le (by simp), foldB_snoc]
      rfl
  · rw [binL_get (by simp; omega), List.getElem?_append_left (by rw [binL_len]; omega), binL_get hge, List.take_append_of_le_length hge]
theorem binL_take (b : Bt) {D : List K3} {n : Nat} (h : n ≤ D.length) : binL b (D.take n) = (binL b D).take (n + 1) := by
  apply List.ext_getElem?
  intro i
  rcases Nat.lt_or_ge n i with hlt | hge
  · rw [List.getElem?_eq_none (by rw [binL_len]; simp; omega), List.getElem?_eq_none (by simp [binL_len]; omega)]
  · rw [binL_get (by simp; omega), List.getElem?_take, if_pos (by omega), binL_get (by omega), List.take_take, Nat.min_eq_left hge]
end Go.Proofs.Ytaaeipjnhjgjdaa
