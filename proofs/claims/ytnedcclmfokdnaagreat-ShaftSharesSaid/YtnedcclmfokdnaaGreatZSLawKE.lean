import Derived.Test.YtnedcclmfokdnaaGreatJ27
import Derived.Test.YtnedcclmfokdnaaGreatJ25
namespace Go.Proofs.YtnedcclmfokdnaaGreat
open Go Go.RowKit Go.Shelf
attribute [local go_sem] Oper.semAt_some Rel RelAt RelUpon
set_option maxRecDepth 100000 in
set_option maxHeartbeats 4000000 in
theorem lhas_c (v : Value) (l : List Int) (n : Int) (w : World) (hv : Ints w w.heap.size v l) :
    Calls Tryz.prog 67 #[v, .int .i64 n] w fun e w' => e = .returned (.bool (decide (n ∈ l))) ∧ w = w' := by
  obtain ⟨A, cap, rfl, _, hn, hat⟩ := hv.open_
  have H := Lib.hid hat
  clear hat hv
  go_enter Tryz.func67, Tryz.ntmps67
  go_wp2_with fail
  go_loopw [9] (fun i wr => ∃ j : Nat, j ≤ l.length ∧ i = .int .i64 j ∧ Hid (n ∉ l.take j) ∧ w = wr) (fun i _ => l.length - (intOf i).toNat)
  case atStart => exact ⟨0, Nat.zero_le _, rfl, Lib.hid (by simp), rfl⟩
  case round =>
    obtain ⟨j, hj, rfl, hq, rfl⟩ := hrel
    by_cases hlt : j < l.length
    · obtain ⟨b, off, x, rfl, hb0, hx0, c0⟩ := H.out j hlt
      have hx := Lib.hid hx0
      clear hx0
      by_cases he : x = n
      · have d1 : (x == n) = true := by simpa using he
        have HE : Hid (decide (n ∈ l) = true) := by
          show decide (n ∈ l) = true
          rw [decide_eq_true_eq, ← he]; exact List.mem_of_getElem? hx.out
        clear he
        go_wp2_with fail
        go_ret
        exact ⟨ret_bool (by rw [HE.out]), rfl⟩
      · have d1 : (x == n) = false := by simpa using he
        have HQ : Hid (n ∉ l.take (j + 1)) := by
          show n ∉ l.take (j + 1)
          rw [take_snoc hx.out]
          intro h
          rcases List.mem_append.1 h with h | h
          · exact hq.out h
          · exact he (List.mem_singleton.1 h).symm
        clear he
        go_wp2_with fail
        go_roundw
        case rel => exact ⟨j + 1, by omega, by go_num, HQ, trivial⟩
        case measure => simp [intOf]; omega
    · obtain rfl : j = l.length := by omega
      rw [List.take_length] at hq
      have HE : Hid (decide (n ∈ l) = false) := by
        show decide (n ∈ l) = false
        simpa using hq.out
      go_wp2_with fail
      go_ret
      exact ⟨ret_bool (by rw [HE.out]), rfl⟩
end Go.Proofs.YtnedcclmfokdnaaGreat
