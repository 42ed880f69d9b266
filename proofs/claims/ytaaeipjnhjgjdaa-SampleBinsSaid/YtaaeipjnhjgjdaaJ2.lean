/- Texts joined: 3RefA. -/
import Derived.Test.YtaaeipjnhjgjdaaProg
import Derived.Test.YtaaeipjnhjgjdaaJ1
/- What the small functions of the reference for samples return. -/
namespace Go.Proofs.Ytaaeipjnhjgjdaa
open Go.RowKit

@[reducible] def k3V (k : K3) : Value := .agg #[.int .i64 k.a, .int .i64 k.b, .int .i64 k.c]
@[reducible] def spV (s : Sp) : Value := .agg #[.int .i64 s.lo, .int .i64 s.hi]
@[reducible] def rtV (r : Rt) : Value := .agg #[.int .i64 r.num, .int .i64 r.den]
@[reducible] def btV (b : Bt) : Value := .agg #[.int .i64 b.n, .int .i64 b.s.a, .int .i64 b.s.b, .int .i64 b.s.c, .int .i64 b.k0.lo, .int .i64 b.k0.hi, .int .i64 b.k1.lo, .int .i64 b.k1.hi, .int .i64 b.k2.lo, .int .i64 b.k2.hi]

theorem in3_c (n lo hi : Int) (w : World) :
    Calls Try.prog 88 #[.int .i64 n, .int .i64 lo, .int .i64 hi] w fun e w' => e = .returned (.bool (inI n lo hi)) ∧ w = w' := by
  by_cases h1 : lo ≤ n
  · go_enter Try.func88, Try.ntmps88
    go_wp2
    go_ret
    exact ⟨ret_bool (by simp [inI, h1]), rfl⟩
  · go_enter Try.func88, Try.ntmps88
    go_wp2
    go_ret
    exact ⟨ret_bool (by simp [inI]; omega), rfl⟩

theorem in3_b {n lo hi : Int} {b : Bool} (w : World) (h : inI n lo hi = b) :
    Calls Try.prog 88 #[.int .i64 n, .int .i64 lo, .int .i64 hi] w fun e w' => e = .returned (.bool b) ∧ Below w.heap.size w w' :=
  (in3_c n lo hi w).mono fun _ _ ⟨a, b⟩ => ⟨by rw [a, h], by rw [← b]; exact Below.refl _ _⟩

theorem sorted3_c (k : K3) (w : World) :
    Calls Try.prog 89 #[k3V k] w fun e w' => e = .returned (.bool (sortedB k)) ∧ Below w.heap.size w w' := by
  unfold k3V
  by_cases h1 : 0 ≤ k.a
  · by_cases h2 : 0 ≤ k.b
    · go_enter Try.func89, Try.ntmps89
      go_wp2
      go_ret
      exact ⟨ret_bool (by simp [sortedB, h1, h2]), below_alloc _ _⟩
    · go_enter Try.func89, Try.ntmps89
      go_wp2
      go_ret
      exact ⟨ret_bool (by simp [sortedB]; omega), below_alloc _ _⟩
  · go_enter Try.func89, Try.ntmps89
    go_wp2
    go_ret
    exact ⟨ret_bool (by simp [sortedB]; omega), below_alloc _ _⟩

def allP (k : K3) : Nat → Int
  | 0 => 0
  | 1 => min k.a 51
  | 2 => min k.a 51 + min k.b 51
  | _ => allI k
theorem all3_c (k : K3) (w : World) (h : sortedB k = true) :
    Calls Try.prog 90 #[k3V k] w fun e w' => e = .returned (.int .i64 (allI k)) ∧ Below w.heap.size w w' := by
  unfold k3V
  simp only [sortedB, Bool.and_eq_true, decide_eq_true_eq] at h
  obtain ⟨⟨h1, h2⟩, h3⟩ := h
  go_enter Try.func90, Try.ntmps90
  go_wp2
  go_loop [3, 4] (fun n i => ∃ j : Nat, j ≤ 3 ∧ i = .int .i64 j ∧ n = .int .i64 (allP k j)) (fun _ i => 3 - (intOf i).toNat)
  case atStart => exact ⟨0, by omega, rfl, rfl⟩
  case round =>
    obtain ⟨j, hj, rfl, rfl⟩ := hrel
    have hj4 : j = 0 ∨ j = 1 ∨ j = 2 ∨ j = 3 := by omega
    rcases hj4 with rfl | rfl | rfl | rfl
    · rw [show allP k 0 = 0 from rfl]
      go_wp2
      go_round
      case rel => exact ⟨1, by omega, by go_num, by congr 1; simp only [allP]; omega⟩
      case measure => simp [intOf]
    · rw [show allP k 1 = min k.a 51 from rfl]
      go_wp2
      go_round
      case rel => exact ⟨2, by omega, by go_num, by congr 1; simp only [allP]; omega⟩
      case measure => simp [intOf]
    · rw [show allP k 2 = min k.a 51 + min k.b 51 from rfl]
      go_wp2
      go_round
      case rel => exact ⟨3, by omega, by go_num, by congr 1; simp only [allP, allI]; omega⟩
      case measure => simp [intOf]
    · go_wp2
      go_ret
      exact ⟨rfl, below_alloc _ _⟩

theorem gcdI_step {x y : Int} (hx : 0 ≤ x) (hy : 0 < y) : gcdI y (x % y) = gcdI x y := by
  unfold gcdI
  congr 1
  obtain ⟨x, rfl⟩ := Int.eq_ofNat_of_zero_le hx
  obtain ⟨y, rfl⟩ := Int.eq_ofNat_of_zero_le (Int.le_of_lt hy)
  rw [← Int.natCast_emod]
  simp only [Int.toNat_natCast]
  rw [Nat.gcd_comm y, ← Nat.gcd_rec, Nat.gcd_comm]
theorem gcdI_zero {x : Int} (hx : 0 ≤ x) : gcdI x 0 = x := by
  unfold gcdI; simp; omega
theorem ratio3_c (n d : Int) (w : World) (hn : 0 ≤ n) (hd : 0 < d) (hn2 : n ≤ 9223372036854775807) (hd2 : d ≤ 9223372036854775807) :
    Calls Try.prog 98 #[.int .i64 n, .int .i64 d] w fun e w' => e = .returned (rtV (ratioI n d)) ∧ Below w.heap.size w w' := by
  go_enter Try.func98, Try.ntmps98
  go_wp2
  go_loop [5, 6] (fun a b => ∃ (x y : Int), a = .int .i64 x ∧ b = .int .i64 y ∧ 0 ≤ x ∧ x ≤ 9223372036854775807 ∧ 0 ≤ y ∧ y ≤ 9223372036854775807 ∧ 0 < x + y ∧ Hid (gcdI x y = gcdI n d)) (fun _ b => (intOf b).toNat)
  case atStart => exact ⟨_, _, rfl, rfl, by omega, by omega, by omega, by omega, by omega, rfl⟩
  case round =>
    obtain ⟨x, y, rfl, rfl, hx0, hx1, hy0, hy1, hxy, hg⟩ := hrel
    by_cases hy : y = 0
    · subst hy
      rw [show gcdI x 0 = x from gcdI_zero hx0] at hg
      go_wp2
      go_region
      all_goals
        go_wp2
        refine bodyPost_ret (v := rtV (ratioI n d)) ?_ rfl ⟨rfl, ?_⟩
        · rw [show ratioI n d = ⟨n / x, d / x⟩ by unfold ratioI; rw [← hg.out]]
          simp [rtV, results, Try.results98, go_sem]
        · exact (below_alloc _ _).drew
    · have hy' : 0 < y := by omega
      have hm := Int.emod_lt_of_pos x hy'
      have hm0 := Int.emod_nonneg x hy
      have hs := Lib.hid (gcdI_step hx0 hy')
      go_wp2
      go_round
      case rel => exact ⟨_, _, rfl, rfl, by omega, by omega, by omega, by omega, by omega, hs.out.trans hg.out⟩
      case measure => simp [intOf]; omega

theorem lot3_c (n m : Int) (w : World) :
    Calls Try.prog 118 #[.int .i64 n, .int .i64 m] w fun e w' => e = .returned (.bool (inI n 1 50 && inI m 0 n)) ∧ w = w' := by
  rcases Bool.eq_false_or_eq_true (inI n 1 50) with h | h
  · go_enter Try.func118, Try.ntmps118
    go_wp2_with fail
    refine (in3_c _ _ _ _).mono ?_
    rintro e w' ⟨rfl, rfl⟩
    rw [h]
    go_wp2_with fail
    refine (in3_c _ _ _ _).mono ?_
    rintro e w' ⟨rfl, rfl⟩
    go_wp2_with fail
    go_ret
    exact ⟨ret_bool (by simp [h]), rfl⟩
  · go_enter Try.func118, Try.ntmps118
    go_wp2_with fail
    refine (in3_c _ _ _ _).mono ?_
    rintro e w' ⟨rfl, rfl⟩
    rw [h]
    go_wp2_with fail
    go_ret
    exact ⟨ret_bool (by simp [h]), rfl⟩
end Go.Proofs.Ytaaeipjnhjgjdaa
