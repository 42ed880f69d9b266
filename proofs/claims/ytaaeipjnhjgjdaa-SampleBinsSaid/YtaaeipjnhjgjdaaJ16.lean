/- Texts joined: 3ProgB. -/
import Derived.Test.YtaaeipjnhjgjdaaJ15
import Derived.Test.YtaaeipjnhjgjdaaJ6
/- Fractions and levels of package sample, and the errors of spans and levels. -/
namespace Go.Proofs.Ytaaeipjnhjgjdaa
open Go.RowKit

theorem divisor_c (n d : Int) (w : World) (hn : 0 ≤ n) (hd : 0 ≤ d) (hs : 0 < n + d) (hn2 : n ≤ 9223372036854775807) (hd2 : d ≤ 9223372036854775807) :
    Calls Try.prog 139 #[.int .i64 n, .int .i64 d] w fun e w' => e = .returned (.int .i64 (gcdI n d)) ∧ Below w.heap.size w w' := by
  go_enter Try.func139, Try.ntmps139
  go_wp2
  go_loopw [0, 1] (fun a b wr => ∃ (x y : Int), a = .int .i64 x ∧ b = .int .i64 y ∧ 0 ≤ x ∧ x ≤ 9223372036854775807 ∧ 0 ≤ y ∧ y ≤ 9223372036854775807 ∧ 0 < x + y ∧ Hid (gcdI x y = gcdI n d) ∧ Below w.heap.size w wr) (fun _ b _ => (intOf b).toNat)
  case atStart => exact ⟨_, _, rfl, rfl, by omega, by omega, by omega, by omega, by omega, rfl, Below.refl _ _⟩
  case round =>
    obtain ⟨x, y, rfl, rfl, hx0, hx1, hy0, hy1, hxy, hg, hb⟩ := hrel
    by_cases hy : y = 0
    · subst hy
      rw [show gcdI x 0 = x from gcdI_zero hx0] at hg
      go_wp2
      go_ret
      exact ⟨ret_int hg.out, hb⟩
    · have hy' : 0 < y := by omega
      have hm := Int.emod_lt_of_pos x hy'
      have hm0 := Int.emod_nonneg x hy
      have hs := Lib.hid (gcdI_step hx0 hy')
      have ht : x.tmod y = x % y := Int.tmod_eq_emod_of_nonneg hx0
      go_wp2
      go_region
      all_goals
        go_wp2
        go_roundw
        case rel => exact ⟨_, _, rfl, rfl, by omega, by omega, by omega, by omega, by omega, hs.out.trans hg.out, hb.drew⟩
        case measure => simp [intOf]; omega
theorem ratioP_c (n d : Int) (w : World) (hn : 0 ≤ n) (hd : 0 < d) (hn2 : n ≤ 9223372036854775807) (hd2 : d ≤ 9223372036854775807) :
    Calls Try.prog 97 #[rtV ⟨n, d⟩] w fun e w' => e = .returned (rtV (ratioI n d)) ∧ Below w.heap.size w w' := by
  have hg0 : 0 < gcdI n d := by unfold gcdI; have := Nat.gcd_pos_of_pos_right n.toNat (show 0 < d.toNat by omega); omega
  have q1 : n.tdiv (gcdI n d) = n / gcdI n d := Int.tdiv_eq_ediv_of_nonneg hn
  have q2 : d.tdiv (gcdI n d) = d / gcdI n d := Int.tdiv_eq_ediv_of_nonneg (by omega)
  have l1 := Int.ediv_le_self (gcdI n d) hn
  have l2 := Int.ediv_le_self (gcdI n d) (show 0 ≤ d by omega)
  have l3 := Int.ediv_nonneg hn (show 0 ≤ gcdI n d by omega)
  have l4 := Int.ediv_nonneg (show 0 ≤ d by omega) (show 0 ≤ gcdI n d by omega)
  unfold rtV
  go_enter Try.func97, Try.ntmps97
  go_wp2_with fail
  refine (divisor_c n d _ hn (by omega) (by omega) hn2 hd2).mono ?_
  rintro e w1 ⟨rfl, hb1⟩
  have hs1 := hb1.size
  simp only [World.size_alloc] at hs1
  have z0 : w.heap.size < w1.heap.size := by omega
  have z1 : w.heap.size + 1 < w1.heap.size := by omega
  have hy1 := (hb1.block (w.heap.size + 1) (by simp)).trans (box2 w (.cells #[.int .i64 n, .int .i64 d] 138) #[.int .i64 0, .int .i64 0] 53)
  have hB : Below w.heap.size w w1 := below_then (below_alloc _ _) (below_then (below_alloc _ _) hb1)
  have HP := Lib.hid (put2 (.int .i64 (n / gcdI n d)) (.int .i64 (d / gcdI n d)) hy1)
  obtain ⟨hc, hf⟩ := bcell hb1
  go_wp2_with fail
  go_region
  all_goals
    go_wp2
    refine bodyPost_ret (v := rtV (ratioI n d)) ?_ rfl ⟨rfl, ((hB.setCell (by simp) _).setCell (by simp) _).drew⟩
    simp [rtV, ratioI, results, Try.results97, go_sem, HP.out.1, HP.out.2]
/-- A fraction of two numbers is at least, or at most, a level. -/
theorem atLeast_c (x y : Int) (r : Rt) (w : World) (hx : 0 ≤ x) (hx2 : x ≤ 495918532948104) (hy : 0 ≤ y) (hy2 : y ≤ 495918532948104) (h1 : 0 ≤ r.den) (h2 : r.den ≤ 10000) (h3 : 0 ≤ r.num) (h4 : r.num ≤ 10000) :
    Calls Try.prog 110 #[rtV ⟨x, y⟩, rtV r] w fun e w' => e = .returned (.bool (decide (y * r.num ≤ x * r.den))) ∧ Below w.heap.size w w' := by
  have m1 : 0 ≤ x * r.den := Int.mul_nonneg hx h1
  have m2 : x * r.den ≤ 495918532948104 * 10000 := Int.mul_le_mul hx2 h2 h1 (by omega)
  have m3 : 0 ≤ r.num * y := Int.mul_nonneg h3 hy
  have m4 : r.num * y ≤ 10000 * 495918532948104 := Int.mul_le_mul h4 hy2 hy (by omega)
  unfold rtV
  go_enter Try.func110, Try.ntmps110
  go_wp2
  go_ret
  refine ⟨ret_bool ?_, below_then (below_alloc _ _) (below_alloc _ _)⟩
  rw [Int.mul_comm y]
theorem atMostP_c (x y : Int) (r : Rt) (w : World) (hx : 0 ≤ x) (hx2 : x ≤ 495918532948104) (hy : 0 ≤ y) (hy2 : y ≤ 495918532948104) (h1 : 0 ≤ r.den) (h2 : r.den ≤ 10000) (h3 : 0 ≤ r.num) (h4 : r.num ≤ 10000) :
    Calls Try.prog 116 #[rtV ⟨x, y⟩, rtV r] w fun e w' => e = .returned (.bool (decide (x * r.den ≤ y * r.num))) ∧ Below w.heap.size w w' := by
  have m1 : 0 ≤ x * r.den := Int.mul_nonneg hx h1
  have m2 : x * r.den ≤ 495918532948104 * 10000 := Int.mul_le_mul hx2 h2 h1 (by omega)
  have m3 : 0 ≤ r.num * y := Int.mul_nonneg h3 hy
  have m4 : r.num * y ≤ 10000 * 495918532948104 := Int.mul_le_mul h4 hy2 hy (by omega)
  unfold rtV
  go_enter Try.func116, Try.ntmps116
  go_wp2
  go_ret
  refine ⟨ret_bool ?_, below_then (below_alloc _ _) (below_alloc _ _)⟩
  rw [Int.mul_comm y]
theorem levelP_c (r : Rt) (w : World) :
    Calls Try.prog 108 #[rtV r] w fun e w' => e = .returned (.bool (levelB r)) ∧ Below w.heap.size w w' := by
  have he := Lib.hid (levelB_eq r)
  unfold rtV
  rcases Bool.eq_false_or_eq_true (inI r.den 1 10000) with h | h
  · rcases Bool.eq_false_or_eq_true (inI r.num 0 r.den) with k | k
    · have h1 : 1 ≤ r.den ∧ r.den ≤ 10000 := by simpa [inI] using h
      have h2 : 0 ≤ r.num ∧ r.num ≤ r.den := by simpa [inI] using k
      have H := Lib.hid h
      have K := Lib.hid k
      clear h k
      go_enter Try.func108, Try.ntmps108
      go_wp2_with fail
      refine (within_c _ _ _ _).mono ?_
      rintro e w1 ⟨rfl, rfl⟩
      rw [H.out]
      go_wp2_with fail
      refine (within_c _ _ _ _).mono ?_
      rintro e w1 ⟨rfl, rfl⟩
      rw [K.out]
      go_wp2_with fail
      refine (divisor_c r.num r.den _ (by omega) (by omega) (by omega) (by omega) (by omega)).mono ?_
      rintro e w1 ⟨rfl, hb1⟩
      go_wp2_with fail
      go_ret
      exact ⟨ret_bool (by rw [he.out, H.out, K.out]; simp), below_then (below_alloc _ _) hb1⟩
    · have H := Lib.hid h
      have K := Lib.hid k
      clear h k
      go_enter Try.func108, Try.ntmps108
      go_wp2_with fail
      refine (within_c _ _ _ _).mono ?_
      rintro e w1 ⟨rfl, rfl⟩
      rw [H.out]
      go_wp2_with fail
      refine (within_c _ _ _ _).mono ?_
      rintro e w1 ⟨rfl, rfl⟩
      rw [K.out]
      go_wp2_with fail
      go_ret
      exact ⟨ret_bool (by rw [he.out, H.out, K.out]; simp), below_alloc _ _⟩
  · have H := Lib.hid h
    clear h
    go_enter Try.func108, Try.ntmps108
    go_wp2_with fail
    refine (within_c _ _ _ _).mono ?_
    rintro e w1 ⟨rfl, rfl⟩
    rw [H.out]
    go_wp2_with fail
    go_ret
    exact ⟨ret_bool (by rw [he.out, H.out]; simp), below_alloc _ _⟩
end Go.Proofs.Ytaaeipjnhjgjdaa
