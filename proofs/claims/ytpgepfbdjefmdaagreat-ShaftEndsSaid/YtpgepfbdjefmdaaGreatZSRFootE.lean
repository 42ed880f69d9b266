import Derived.Test.YtpgepfbdjefmdaaGreatJ25
import Derived.Test.YtpgepfbdjefmdaaGreatJ5
namespace Go.Proofs.YtpgepfbdjefmdaaGreat
open Go Go.RowKit Go.Shelf
attribute [local go_sem] Oper.semAt_some Rel RelAt RelUpon
set_option maxRecDepth 100000 in
set_option maxHeartbeats 4000000 in
theorem rfoot_c (a p : Int) (w : World) (ha : -687865856 ≤ a ∧ a ≤ 687865856) (hp : 1 ≤ p ∧ p ≤ 65536) :
    Calls Tryz.prog 114 #[.int .i64 a, .int .i64 p] w fun e w' => e = .returned (.int .i64 (floorI a p)) ∧ w = w' := by
  have d0 : (p == 0) = false := beq_eq_false_iff_ne.2 (by omega)
  have hs := div_small hp.1 ha
  by_cases hn : a < 0
  · have hq := quo_up hp.1 hn
    obtain ⟨q, hqq⟩ : ∃ q, q = (p - 1 - a).tdiv p := ⟨_, rfl⟩
    rw [← hqq] at hq
    have hqs : -687865856 ≤ q ∧ q ≤ 687865856 := by omega
    have HF := Lib.hid (show floorI a p = -q from hq.symm)
    clear hq hs
    go_enter Tryz.func114, Tryz.ntmps114
    go_wp2_with fail
    all_goals (try (exfalso; omega))
    go_ret
    exact ⟨ret_int (by rw [HF.out, hqq]), rfl⟩
  · have hq : a.tdiv p = a / p := Int.tdiv_eq_ediv_of_nonneg (by omega)
    have HF := Lib.hid (show floorI a p = a.tdiv p from hq.symm)
    go_enter Tryz.func114, Tryz.ntmps114
    go_wp2_with fail
    all_goals (try (exfalso; omega))
    go_ret
    exact ⟨ret_int (by rw [HF.out, hq]), rfl⟩
end Go.Proofs.YtpgepfbdjefmdaaGreat
