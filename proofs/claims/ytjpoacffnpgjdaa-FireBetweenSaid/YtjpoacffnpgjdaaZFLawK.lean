/- What the laws of fire ask first: few. -/
import Derived.Test.YtjpoacffnpgjdaaZFHead
import Derived.Test.YtjpoacffnpgjdaaJ2
namespace Go.Proofs.Ytjpoacffnpgjdaa
open Go Go.RowKit Go.Shelf

def fewB (n : Nat) : Bool := decide (n ≤ 12) || (decide (24 < n) && decide (n ≤ 40))
theorem few_c (f : Fi) (A : Option Addr) (n cap : Nat) (w : World) : Calls Try.prog 9 #[fiV f (.slice A n cap)] w fun e w' => e = .returned (.bool (fewB n)) ∧ Below w.heap.size w w' := by
  unfold fiV fewB
  by_cases h1 : n ≤ 12
  · have d1 : decide ((n : Int) ≤ 12) = true := decide_eq_true (by omega)
    rw [decide_eq_true h1, Bool.true_or]
    clear h1
    go_enter Try.func9, Try.ntmps9
    go_wp2
    go_ret
    exact ⟨rfl, below_alloc _ _⟩
  · have d1 : decide ((n : Int) ≤ 12) = false := decide_eq_false (by omega)
    rw [decide_eq_false h1, Bool.false_or]
    by_cases h2 : 24 < n
    · have d2 : decide ((n : Int) > 24) = true := decide_eq_true (by omega)
      rw [decide_eq_true h2, Bool.true_and]
      by_cases h3 : n ≤ 40
      · have d3 : decide ((n : Int) ≤ 40) = true := decide_eq_true (by omega)
        rw [decide_eq_true h3]
        clear h1 h2 h3
        go_enter Try.func9, Try.ntmps9
        go_wp2
        go_ret
        exact ⟨rfl, below_alloc _ _⟩
      · have d3 : decide ((n : Int) ≤ 40) = false := decide_eq_false (by omega)
        rw [decide_eq_false h3]
        clear h1 h2 h3
        go_enter Try.func9, Try.ntmps9
        go_wp2
        go_ret
        exact ⟨rfl, below_alloc _ _⟩
    · have d2 : decide ((n : Int) > 24) = false := decide_eq_false (by omega)
      rw [decide_eq_false h2, Bool.false_and]
      clear h1 h2
      go_enter Try.func9, Try.ntmps9
      go_wp2
      go_ret
      exact ⟨rfl, below_alloc _ _⟩
theorem few_len {n : Nat} (h : fewB n = true) : n ≤ 40 := by
  unfold fewB at h
  simp only [Bool.or_eq_true, Bool.and_eq_true, decide_eq_true_eq] at h
  omega
theorem few_big {n : Nat} (h : 40 < n) : fewB n = false := by
  cases hf : fewB n with
  | false => rfl
  | true => have := few_len hf; omega
theorem ids_len (P : Lk → Bool) (ls : List Lk) : (idsI P ls).length ≤ ls.length := by
  unfold idsI
  rw [(putAll_spec _).1.length_eq, List.length_map]
  exact List.length_filter_le _ _
theorem susp_len {f : Fi} (h : FireOk f) : (suspR f).length ≤ 24 := by
  unfold suspR suspL
  rw [if_pos (ok_fire h)]
  split
  · simp
  · exact Nat.le_trans (ids_len _ _) h.len
theorem rests_len {f : Fi} (h : FireOk f) (p : Spt) : (restsR f p).length ≤ 24 := by
  unfold restsR restL
  split
  · exact Nat.le_trans (ids_len _ _) h.len
  · simp
end Go.Proofs.Ytjpoacffnpgjdaa
