/- Texts joined: 3ProgA. -/
import Derived.Test.YtaaeipjnhjgjdaaJ6
import Derived.Test.YtaaeipjnhjgjdaaJ1
import Derived.Lib.MinMax
/- What the small functions of package sample return. -/
namespace Go.Proofs.Ytaaeipjnhjgjdaa
open Go.RowKit

theorem within_c (n lo hi : Int) (w : World) :
    Calls Try.prog 74 #[.int .i64 n, .int .i64 lo, .int .i64 hi] w fun e w' => e = .returned (.bool (inI n lo hi)) ∧ w = w' := by
  by_cases h1 : lo ≤ n
  · go_enter Try.func74, Try.ntmps74
    go_wp2
    go_ret
    exact ⟨ret_bool (by simp [inI, h1]), rfl⟩
  · go_enter Try.func74, Try.ntmps74
    go_wp2
    go_ret
    exact ⟨ret_bool (by simp [inI]; omega), rfl⟩
theorem within_b {n lo hi : Int} {b : Bool} (w : World) (h : inI n lo hi = b) :
    Calls Try.prog 74 #[.int .i64 n, .int .i64 lo, .int .i64 hi] w fun e w' => e = .returned (.bool b) ∧ Below w.heap.size w w' :=
  (within_c n lo hi w).mono fun _ _ ⟨a, b⟩ => ⟨by rw [a, h], by rw [← b]; exact Below.refl _ _⟩
theorem chooseP_c (n k : Int) (w : World) (hn : 0 ≤ n) (hn2 : n ≤ 50) (hk : 0 ≤ k) (hk2 : k ≤ 9223372036854775807) :
    Calls Try.prog 75 #[.int .i64 n, .int .i64 k] w fun e w' => e = .returned (.int .i64 (chooseI n k)) ∧ w = w' := by
  rcases Int.lt_or_le n k with h | h
  · have h0 := Lib.hid (chooseI_gt hn h)
    go_enter Try.func75, Try.ntmps75
    go_wp2
    go_ret
    exact ⟨ret_int h0.out.symm, rfl⟩
  · obtain ⟨m, hm⟩ : ∃ m, m = min k (n - k) := ⟨_, rfl⟩
    have hs := Lib.hid (chooseI_sym hk h)
    have hm0 : 0 ≤ m := by omega
    have hm1 : m ≤ n := by omega
    go_enter Try.func75, Try.ntmps75
    go_wp2
    rw [← hm]
    go_loop [5, 15] (fun x i => ∃ j : Nat, (j : Int) ≤ m ∧ i = .int .i64 j ∧ x = .int .i64 (chooseI n j)) (fun _ i => m.toNat - (intOf i).toNat)
    case atStart => exact ⟨0, by omega, rfl, by rw [show chooseI n ((0 : Nat) : Int) = 1 by unfold chooseI; rw [show ((0 : Nat) : Int).toNat = 0 from rfl, Cb_zero]; rfl]⟩
    case round =>
      obtain ⟨j, hj, rfl, rfl⟩ := hrel
      by_cases hlt : (j : Int) < m
      · have c0 := chooseI_nonneg n j
        have c1 := chooseI_le j hn2
        have st := chooseI_step (n := n) (i := j) (by omega)
        have p0 : 0 ≤ chooseI n j * (n - j) := Int.mul_nonneg c0 (by omega)
        have p1 : chooseI n j * (n - j) ≤ 126410606437752 * 50 := Int.mul_le_mul c1 (by omega) (by omega) (by omega)
        have hq : chooseI n j * (n - j) / ((j : Int) + 1) = chooseI n ((j : Int) + 1) := by
          rw [Int.mul_comm, ← st, Int.mul_ediv_cancel_left _ (by omega)]
        have hq2 : (chooseI n j * (n - j)).tdiv ((j : Int) + 1) = chooseI n ((j : Int) + 1) := by rw [Int.tdiv_eq_ediv_of_nonneg p0, hq]
        have HQ := Lib.hid hq
        have HQ2 := Lib.hid hq2
        clear hq hq2 st hs hm
        go_wp2
        go_round
        case rel => exact ⟨j + 1, by omega, by go_num, by first | (rw [HQ.out]; rfl) | (rw [HQ2.out]; rfl)⟩
        case measure => simp [intOf]; omega
      · have : (j : Int) = m := by omega
        go_wp2
        go_ret
        exact ⟨ret_int (by first | exact hs.out | rw [this, hm, hs.out]), rfl⟩
theorem chooseP_b {n k : Int} (w : World) (hn : 0 ≤ n) (hn2 : n ≤ 50) (hk : 0 ≤ k) (hk2 : k ≤ 9223372036854775807) :
    Calls Try.prog 75 #[.int .i64 n, .int .i64 k] w fun e w' => e = .returned (.int .i64 (chooseI n k)) ∧ Below w.heap.size w w' :=
  (chooseP_c n k w hn hn2 hk hk2).mono fun _ _ ⟨a, b⟩ => ⟨a, by rw [← b]; exact Below.refl _ _⟩
theorem spanP_c (s : Sp) (w : World) :
    Calls Try.prog 87 #[spV s] w fun e w' => e = .returned (.bool (decide (s.lo ≤ s.hi))) ∧ Below w.heap.size w w' := by
  unfold spV
  go_enter Try.func87, Try.ntmps87
  go_wp2
  go_ret
  exact ⟨rfl, below_alloc _ _⟩
theorem sortP_c (s : Int) (w : World) :
    Calls Try.prog 130 #[.int .i64 s] w fun e w' => e = .returned (.bool (inI s 0 2)) ∧ w = w' := by
  go_enter Try.func130, Try.ntmps130
  go_wp2_with fail
  refine (within_c _ _ _ _).mono ?_
  rintro e w' ⟨rfl, rfl⟩
  go_wp2_with fail
  go_ret
  exact ⟨rfl, rfl⟩
@[go_sem high] theorem run_min_three {P : Program} (w : World) (ts : Array TypeId) (t : TypeId) (k k1 k2 : IntKind) (x y z : Int) :
    (Builtin.min_ ts t #[.int k x, .int k1 y, .int k2 z]).run P w = .ok (.int k (min (min x y) z)) w := by
  have e : (if z < (if y < x then y else x) then z else (if y < x then y else x)) = min (min x y) z := by
    have e1 : (if y < x then y else x) = min x y := by rw [Int.min_def]; split <;> split <;> omega
    rw [e1, Int.min_def (min x y)]
    split <;> split <;> omega
  simp [Builtin.min_, Builtin.min2, e]
theorem sampleP_c (k : K3) (w : World) :
    Calls Try.prog 77 #[k3V k] w fun e w' => e = .returned (.bool (sortedB k)) ∧ Below w.heap.size w w' := by
  unfold k3V
  go_enter Try.func77, Try.ntmps77
  go_wp2
  go_ret
  refine ⟨ret_bool ?_, below_alloc _ _⟩
  rw [Bool.eq_iff_iff]
  simp only [sortedB, Bool.and_eq_true, decide_eq_true_eq]
  omega
theorem countP_c (k : K3) (w : World) (h0 : 0 ≤ k.a ∧ 0 ≤ k.b ∧ 0 ≤ k.c ∧ k.a + k.b + k.c ≤ 50) :
    Calls Try.prog 103 #[k3V k] w fun e w' => e = .returned (.int .i64 (k.a + k.b + k.c)) ∧ Below w.heap.size w w' := by
  unfold k3V
  obtain ⟨h1, h2, h3, h4⟩ := h0
  go_enter Try.func103, Try.ntmps103
  go_wp2
  go_ret
  exact ⟨rfl, below_alloc _ _⟩
theorem idx0 (a b c : Int) (w : World) : (Instr.index 23 (.agg #[.int .i64 a, .int .i64 b, .int .i64 c]) (.int .i64 0)).run Try.prog w = .ok (.int .i64 a) w := by kernel_rfl
theorem idx1 (a b c : Int) (w : World) : (Instr.index 23 (.agg #[.int .i64 a, .int .i64 b, .int .i64 c]) (.int .i64 1)).run Try.prog w = .ok (.int .i64 b) w := by kernel_rfl
theorem idx2 (a b c : Int) (w : World) : (Instr.index 23 (.agg #[.int .i64 a, .int .i64 b, .int .i64 c]) (.int .i64 2)).run Try.prog w = .ok (.int .i64 c) w := by kernel_rfl
attribute [go_sem] idx0 idx1 idx2
set_option maxRecDepth 100000 in
theorem upToP_c (x : K3) (n : Int) (w : World) (h0 : 0 ≤ n) (hn : n ≤ 50) :
    Calls Try.prog 86 #[k3V x, .int .i64 n] w fun e w' => e = .returned (.bool (upToB x n)) ∧ Below w.heap.size w w' := by
  unfold k3V
  go_enter Try.func86, Try.ntmps86
  go_wp2_with fail
  go_loop [1, 8] (fun l i => ∃ j : Nat, j ≤ 3 ∧ i = .int .i64 j ∧ ((j = 0 ∧ l = .int .i64 n) ∨ (j = 1 ∧ l = .int .i64 (n - x.a) ∧ Hid (inI x.a 0 n = true)) ∨ (j = 2 ∧ l = .int .i64 (n - x.a - x.b) ∧ Hid (inI x.a 0 n = true ∧ inI x.b 0 (n - x.a) = true)) ∨ (j = 3 ∧ l = .int .i64 (n - x.a - x.b - x.c) ∧ Hid (upToB x n = true)))) (fun _ i => 3 - (intOf i).toNat)
  case atStart => exact ⟨0, by omega, rfl, .inl ⟨rfl, rfl⟩⟩
  case round =>
    obtain ⟨j, hj, rfl, ⟨rfl, rfl⟩ | ⟨rfl, rfl, a1⟩ | ⟨rfl, rfl, a1⟩ | ⟨rfl, rfl, a1⟩⟩ := hrel
    · go_wp2_with fail
      refine (within_c _ _ _ _).mono ?_
      rintro e w' ⟨rfl, rfl⟩
      rcases Bool.eq_false_or_eq_true (inI x.a 0 n) with h | h
      · rw [h]
        have h' : 0 ≤ x.a ∧ x.a ≤ n := by simpa [inI] using h
        obtain ⟨h1, h2⟩ := h'
        have H := Lib.hid h
        clear h
        go_wp2_with fail
        go_round
        case rel => exact ⟨1, by omega, by go_num, .inr (.inl ⟨rfl, rfl, H⟩)⟩
        case measure => simp [intOf]
      · rw [h]
        have H := Lib.hid h
        clear h
        go_wp2_with fail
        go_ret
        exact ⟨ret_bool (by simp [upToB, H.out]), below_alloc _ _⟩
    · go_wp2_with fail
      refine (within_c _ _ _ _).mono ?_
      rintro e w' ⟨rfl, rfl⟩
      have h' : 0 ≤ x.a ∧ x.a ≤ n := by simpa [inI] using a1.out
      obtain ⟨g1, g2⟩ := h'
      rcases Bool.eq_false_or_eq_true (inI x.b 0 (n - x.a)) with h | h
      · rw [h]
        have h' : 0 ≤ x.b ∧ x.b ≤ n - x.a := by simpa [inI] using h
        obtain ⟨h1, h2⟩ := h'
        have H := Lib.hid h
        clear h
        go_wp2_with fail
        go_round
        case rel => exact ⟨2, by omega, by go_num, .inr (.inr (.inl ⟨rfl, rfl, Lib.hid ⟨a1.out, H.out⟩⟩))⟩
        case measure => simp [intOf]
      · rw [h]
        have H := Lib.hid h
        clear h
        go_wp2_with fail
        go_ret
        exact ⟨ret_bool (by simp [upToB, H.out]), below_alloc _ _⟩
    · go_wp2_with fail
      refine (within_c _ _ _ _).mono ?_
      rintro e w' ⟨rfl, rfl⟩
      have h' : (0 ≤ x.a ∧ x.a ≤ n) ∧ 0 ≤ x.b ∧ x.b ≤ n - x.a := ⟨by simpa [inI] using a1.out.1, by simpa [inI] using a1.out.2⟩
      obtain ⟨⟨g1, g2⟩, g3, g4⟩ := h'
      rcases Bool.eq_false_or_eq_true (inI x.c 0 (n - x.a - x.b)) with h | h
      · rw [h]
        have h' : 0 ≤ x.c ∧ x.c ≤ n - x.a - x.b := by simpa [inI] using h
        obtain ⟨h1, h2⟩ := h'
        have H := Lib.hid h
        clear h
        go_wp2_with fail
        go_round
        case rel => exact ⟨3, by omega, by go_num, .inr (.inr (.inr ⟨rfl, rfl, Lib.hid (by simp [upToB, a1.out, H.out])⟩))⟩
        case measure => simp [intOf]
      · rw [h]
        have H := Lib.hid h
        clear h
        go_wp2_with fail
        go_ret
        exact ⟨ret_bool (by simp [upToB, H.out]), below_alloc _ _⟩
    · go_wp2_with fail
      go_ret
      exact ⟨ret_bool a1.out.symm, below_alloc _ _⟩
theorem wholeB_eq (x : K3) : wholeB x = (upToB x 50 && decide (1 ≤ x.a + x.b + x.c)) := by
  rw [Bool.eq_iff_iff, Bool.and_eq_true, upTo_iff]
  simp only [wholeB, sortedB, inI, Bool.and_eq_true, decide_eq_true_eq]
  unfold allI
  constructor
  · rintro ⟨⟨⟨a, b⟩, c⟩, d, e⟩; exact ⟨⟨a, b, c, by omega⟩, by omega⟩
  · rintro ⟨⟨a, b, c, d⟩, e⟩; exact ⟨⟨⟨a, b⟩, c⟩, by omega, by omega⟩
theorem wholeP_c (x : K3) (w : World) :
    Calls Try.prog 76 #[k3V x] w fun e w' => e = .returned (.bool (wholeB x)) ∧ Below w.heap.size w w' := by
  have he := Lib.hid (wholeB_eq x)
  unfold k3V
  go_enter Try.func76, Try.ntmps76
  go_wp2_with fail
  refine (upToP_c x 50 _ (by omega) (by omega)).mono ?_
  rintro e w1 ⟨rfl, hb1⟩
  have hb : Below w.heap.size w w1 := below_then (below_alloc _ _) hb1
  obtain ⟨hc, hf⟩ := bcell hb1
  have hz : w.heap.size < w1.heap.size := by have := hb1.size; simp at this; omega
  rcases Bool.eq_false_or_eq_true (upToB x 50) with h | h
  · rw [h]
    have hx := upTo_iff.1 h
    go_wp2_with fail
    refine (countP_c x _ hx).mono ?_
    rintro e w2 ⟨rfl, hb2⟩
    go_wp2_with fail
    go_ret
    exact ⟨ret_bool (by rw [he.out, h, Bool.true_and]), below_then hb hb2⟩
  · rw [h]
    go_wp2_with fail
    go_ret
    exact ⟨ret_bool (by rw [he.out, h, Bool.false_and]), hb⟩
end Go.Proofs.Ytaaeipjnhjgjdaa
