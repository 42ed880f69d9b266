/- All samples of a size: their ways are together Choose of the whole. -/
import Derived.Test.YtihgkeokhfmccaaJ12
import Derived.Test.YtihgkeokhfmccaaZ3MathF
namespace Go.Proofs.Ytihgkeokhfmccaa
open Go Go.RowKit

def to3 (x : K3) : Nat → Int
  | 0 => 0
  | 1 => x.a
  | 2 => x.a + x.b
  | _ => x.a + x.b + x.c
def ok3 (x : K3) (j : Nat) : Prop := (0 < j → 0 ≤ x.a ∧ x.a ≤ 20) ∧ (1 < j → 0 ≤ x.b ∧ x.b ≤ 20) ∧ (2 < j → 0 ≤ x.c ∧ x.c ≤ 20)
theorem to3_le {x : K3} {j : Nat} (h : ok3 x j) : 0 ≤ to3 x j ∧ to3 x j ≤ 60 := by
  obtain ⟨h1, h2, h3⟩ := h
  match j with
  | 0 => simp [to3]
  | 1 => have := h1 (by omega); simp only [to3]; omega
  | 2 => have := h1 (by omega); have := h2 (by omega); simp only [to3]; omega
  | j + 3 => have := h1 (by omega); have := h2 (by omega); have := h3 (by omega); simp only [to3]; omega
theorem waysR_in {x : K3} {s : K3} (h : 0 ≤ x.a ∧ 0 ≤ x.b ∧ 0 ≤ x.c) (h1 : 1 ≤ x.a + x.b + x.c) (h2 : x.a + x.b + x.c ≤ 20) (hs : 0 ≤ s.a ∧ 0 ≤ s.b ∧ 0 ≤ s.c) : waysR x s = (waysI x s, 0) := by
  unfold waysR
  rw [if_pos]
  have e : allI x = x.a + x.b + x.c := by unfold allI; omega
  simp only [wholeB, sortedB, inI, e, Bool.and_eq_true, decide_eq_true_eq]
  exact ⟨⟨⟨⟨h.1, h.2.1⟩, h.2.2⟩, h1, by omega⟩, ⟨hs.1, hs.2.1⟩, hs.2.2⟩
set_option maxHeartbeats 3200000 in
set_option maxRecDepth 100000 in
theorem SampleAddsUp_w (S : Sam) (x : K3) (size : Int) (w : World) : Calls Try.prog 13 #[k3V x, .int .i64 size] w fun e w' => e = .returned (.bool true) ∧ Below w.heap.size w w' := by
  have eqRt := Try.eqRt
  have eqSp := Try.eqSp
  have eqTr := Try.eqTr
  have eqBt := Try.eqBt
  have neRt := Try.neRt
  have neBt := Try.neBt
  have eqK3 := Try.eqK3
  unfold k3V
  go_enter Try.func13, Try.ntmps13
  go_wp2_with fail
  refine (head_c S _).mono ?_
  rintro e w1 ⟨he, hb1⟩
  subst he
  have hs1 := hb1.size
  simp only [World.size_alloc] at hs1
  have hF1 : Below w.heap.size w w1 := (below_then (below_alloc _ _) hb1)
  have hB1 := hF1
  have zx1 : w.heap.size < w1.heap.size := by omega
  have bx1 : w1.heap[w.heap.size]? = some (.cells #[.int .i64 x.a, .int .i64 x.b, .int .i64 x.c] 23) := (hb1.block (w.heap.size) (by simp)).trans (alloc_at w (.cells #[.int .i64 x.a, .int .i64 x.b, .int .i64 x.c] 23) (by first | rfl | simp))
  clear hb1 hF1
  have cx0 := Joins.cell_of_block bx1 0
  have cx1 := Joins.cell_of_block bx1 1
  have cx2 := Joins.cell_of_block bx1 2
  go_wp2_with fail
  go_loopw [6, 7] (fun v i wr => ∃ j : Nat, j ≤ 3 ∧ i = .int .i64 j ∧ v = .int .i64 (to3 x j) ∧ ok3 x j ∧ w1 = wr) (fun _ i _ => 3 - (intOf i).toNat)
  case atStart => exact ⟨0, by omega, rfl, rfl, ⟨fun h => absurd h (by omega), fun h => absurd h (by omega), fun h => absurd h (by omega)⟩, rfl⟩
  case round =>
    obtain ⟨j, hj, rfl, rfl, hk, rfl⟩ := hrel
    obtain rfl | rfl | rfl | rfl : j = 0 ∨ j = 1 ∨ j = 2 ∨ j = 3 := by omega
    · by_cases hc : 0 ≤ x.a ∧ x.a ≤ 20
      · have d1 : decide (x.a < 0) = false := decide_eq_false (by omega)
        have d2 : decide (x.a > 20) = false := decide_eq_false (by omega)
        have hk2 : ok3 x 1 := ⟨fun _ => hc, fun h => absurd h (by omega), fun h => absurd h (by omega)⟩
        have hb3 := to3_le hk2
        have hb2 := to3_le hk
        simp only [to3] at hb2 hb3 ⊢
        clear hk
        go_wp2
        go_roundw
        case rel => exact ⟨1, by omega, by go_num, by first | rfl | go_num | simp, hk2, by first | rfl | trivial⟩
        case measure => simp [intOf]
      · by_cases hd : x.a < 0
        · have d1 : decide (x.a < 0) = true := decide_eq_true (by omega)
          go_wp2
          go_ret
          exact ⟨rfl, hB1⟩
        · have d1 : decide (x.a < 0) = false := decide_eq_false (by omega)
          have d2 : decide (x.a > 20) = true := decide_eq_true (by omega)
          go_wp2
          go_ret
          exact ⟨rfl, hB1⟩
    · by_cases hc : 0 ≤ x.b ∧ x.b ≤ 20
      · have d1 : decide (x.b < 0) = false := decide_eq_false (by omega)
        have d2 : decide (x.b > 20) = false := decide_eq_false (by omega)
        have hk2 : ok3 x 2 := ⟨fun _ => hk.1 (by omega), fun h => hc, fun h => absurd h (by omega)⟩
        have hb3 := to3_le hk2
        have hb2 := to3_le hk
        simp only [to3] at hb2 hb3 ⊢
        clear hk
        go_wp2
        go_roundw
        case rel => exact ⟨2, by omega, by go_num, by first | rfl | go_num | simp, hk2, by first | rfl | trivial⟩
        case measure => simp [intOf]
      · by_cases hd : x.b < 0
        · have d1 : decide (x.b < 0) = true := decide_eq_true (by omega)
          go_wp2
          go_ret
          exact ⟨rfl, hB1⟩
        · have d1 : decide (x.b < 0) = false := decide_eq_false (by omega)
          have d2 : decide (x.b > 20) = true := decide_eq_true (by omega)
          go_wp2
          go_ret
          exact ⟨rfl, hB1⟩
    · by_cases hc : 0 ≤ x.c ∧ x.c ≤ 20
      · have d1 : decide (x.c < 0) = false := decide_eq_false (by omega)
        have d2 : decide (x.c > 20) = false := decide_eq_false (by omega)
        have hk2 : ok3 x 3 := ⟨fun _ => hk.1 (by omega), fun h => hk.2.1 (by omega), fun h => hc⟩
        have hb3 := to3_le hk2
        have hb2 := to3_le hk
        simp only [to3] at hb2 hb3 ⊢
        clear hk
        go_wp2
        go_roundw
        case rel => exact ⟨3, by omega, by go_num, by first | rfl | go_num | simp, hk2, by first | rfl | trivial⟩
        case measure => simp [intOf]
      · by_cases hd : x.c < 0
        · have d1 : decide (x.c < 0) = true := decide_eq_true (by omega)
          go_wp2
          go_ret
          exact ⟨rfl, hB1⟩
        · have d1 : decide (x.c < 0) = false := decide_eq_false (by omega)
          have d2 : decide (x.c > 20) = true := decide_eq_true (by omega)
          go_wp2
          go_ret
          exact ⟨rfl, hB1⟩
    · unfold ok3 at hk
      obtain ⟨h1, h2, h3⟩ := hk
      have g1 := h1 (by omega)
      have g2 := h2 (by omega)
      have g3 := h3 (by omega)
      clear h1 h2 h3
      simp only [to3]
      by_cases e1 : x.a + x.b + x.c < 1
      · have d1 : decide (x.a + x.b + x.c < 1) = true := decide_eq_true e1
        go_wp2_with fail
        go_ret
        exact ⟨rfl, hB1⟩
      · have d1 : decide (x.a + x.b + x.c < 1) = false := decide_eq_false e1
        by_cases e2 : x.a + x.b + x.c > 20
        · have d2 : decide (x.a + x.b + x.c > 20) = true := decide_eq_true e2
          go_wp2_with fail
          go_ret
          exact ⟨rfl, hB1⟩
        · have d2 : decide (x.a + x.b + x.c > 20) = false := decide_eq_false e2
          by_cases e3 : size < 0
          · have d3 : decide (size < 0) = true := decide_eq_true e3
            go_wp2_with fail
            go_ret
            exact ⟨rfl, hB1⟩
          · have d3 : decide (size < 0) = false := decide_eq_false e3
            by_cases e4 : size > x.a + x.b + x.c
            · have d4 : decide (size > x.a + x.b + x.c) = true := decide_eq_true e4
              go_wp2_with fail
              go_ret
              exact ⟨rfl, hB1⟩
            · have d4 : decide (size > x.a + x.b + x.c) = false := decide_eq_false e4
              have p1 := fun w => S.Choose (x.a + x.b + x.c) size w
              rw [chooseR_ok (by omega) (by omega) (by omega)] at p1
              have p2 := fun w => S.Choose (x.a + x.b + x.c) (x.a + x.b + x.c - size) w
              rw [chooseR_ok (by omega) (by omega) (by omega), chooseI_rest (by omega) (by omega)] at p2
              have wp := fun (i k : Nat) (hi : (i : Int) ≤ size) (hk : (k : Int) ≤ size - i + 1) => ways_part (x := x) (size := size) ⟨g1.1, g2.1, g3.1⟩ (by omega) (by omega) hi hk
              have wa := ways_add (x := x) (size := size) ⟨g1.1, g2.1, g3.1⟩ (by omega)
              have c1 := chooseI_pos (n := x.a + x.b + x.c) (k := size) (by omega)
              have WP := Lib.hid wp
              have WA := Lib.hid wa
              have P1 := Lib.hid p1
              have P2 := Lib.hid p2
              clear p1 p2 wp wa
              generalize hC : chooseI (x.a + x.b + x.c) size = C at *
              have d5 : decide (C ≥ 1) = true := decide_eq_true c1
              clear hC
              go_wp2_with fail
              refine (P1.out _).mono ?_
              rintro e w2 ⟨he, hb2⟩
              subst he
              have hs2 := hb2.size
              have hF2 : Below w1.heap.size w1 w2 := hb2
              have hB2 := below_then hB1 hF2
              have zx2 : w.heap.size < w2.heap.size := by omega
              have bx2 := (hF2.block (w.heap.size) zx1).trans bx1
              clear hb2 hF2 hB1 hs1 zx1 bx1 cx0 cx1 cx2
              go_wp2_with fail
              refine (P2.out _).mono ?_
              rintro e w3 ⟨he, hb3⟩
              subst he
              have hs3 := hb3.size
              have hF3 : Below w2.heap.size w2 w3 := hb3
              have hB3 := below_then hB2 hF3
              have zx3 : w.heap.size < w3.heap.size := by omega
              have bx3 := (hF3.block (w.heap.size) zx2).trans bx2
              clear hb3 hF3 hB2 hs2 zx2 bx2
              go_wp2_with fail
              go_loopw [12, 13] (fun v i wr => ∃ j : Nat, (j : Int) ≤ size + 1 ∧ i = .int .i64 j ∧ v = .int .i64 (sumI (outW x size) j) ∧ Below w3.heap.size w3 wr) (fun _ i _ => (size + 1).toNat - (intOf i).toNat)
              case atStart => exact ⟨0, by omega, rfl, rfl, Below.refl _ _⟩
              case round =>
                obtain ⟨j, hj, rfl, rfl, hb⟩ := hrel
                by_cases hlt : (j : Int) ≤ size
                · have dlt : decide ((j : Int) ≤ size) = true := decide_eq_true hlt
                  obtain ⟨wo, rfl⟩ : ∃ wo : World, wo = wr := ⟨_, rfl⟩
                  have dk0 : decide ((j : Int) + 0 ≤ size) = true := decide_eq_true (by omega)
                  go_wp2_with fail
                  go_loopw [12, 14] (fun v i wr => ∃ k : Nat, (k : Int) ≤ size - j + 1 ∧ i = .int .i64 k ∧ v = .int .i64 (sumI (outW x size) j + sumI (inW x size j) k) ∧ Below w3.heap.size w3 wr) (fun _ i _ => (size - j + 1).toNat - (intOf i).toNat)
                  case atStart => exact ⟨0, by omega, rfl, by rw [sumI]; simp, hb⟩
                  case round =>
                    clear hb
                    obtain ⟨k, hk, rfl, rfl, hb⟩ := hrel
                    by_cases hkl : (j : Int) + k ≤ size
                    · have dkl : decide ((j : Int) + (k : Int) ≤ size) = true := decide_eq_true hkl
                      have pw := fun w => S.Ways x ⟨j, k, size - j - k⟩ w
                      rw [waysR_in ⟨g1.1, g2.1, g3.1⟩ (by omega) (by omega) (by simp only; omega)] at pw
                      rw [show waysI x ⟨j, k, size - j - k⟩ = inW x size j k from rfl] at pw
                      have q1 := WP.out j k (by omega) (by omega)
                      have q2 := WP.out j (k + 1) (by omega) (by omega)
                      rw [sumI] at q2
                      have q3 := inW_nonneg x size j k
                      have q4 : 0 ≤ sumI (outW x size) j + sumI (inW x size j) k + inW x size j k ∧ sumI (outW x size) j + sumI (inW x size j) k + inW x size j k ≤ 126410606437752 := by omega
                      clear q2
                      have HS : Hid (sumI (outW x size) j + sumI (inW x size j) k + inW x size j k = sumI (outW x size) j + sumI (inW x size j) (k + 1)) := by show _ = _; rw [sumI]; omega
                      have PW := Lib.hid pw
                      clear pw
                      have hshb := hb.size
                      have zxhb : w.heap.size < wr.heap.size := by omega
                      have yxhb := (hb.block (w.heap.size) zx3).trans bx3
                      have cx0 := Joins.cell_of_block yxhb 0
                      have cx1 := Joins.cell_of_block yxhb 1
                      have cx2 := Joins.cell_of_block yxhb 2
                      generalize inW x size j k = v at *
                      generalize sumI (outW x size) j + sumI (inW x size j) k = u at *
                      go_wp2_with fail
                      refine (PW.out _).mono ?_
                      rintro e w9 ⟨he, hb9⟩
                      subst he
                      have hB9 := hb.trans (hb9.mono hb.size)
                      clear hb9
                      go_wp2
                      go_roundw
                      case rel => exact ⟨k + 1, by omega, by go_num, by rw [HS.out], hB9⟩
                      case measure => simp [intOf]; omega
                    · have dkl : decide ((j : Int) + (k : Int) ≤ size) = false := decide_eq_false hkl
                      obtain rfl : k = (size - j + 1).toNat := by omega
                      have HS : Hid (sumI (outW x size) j + sumI (inW x size j) (size - j + 1).toNat = sumI (outW x size) (j + 1)) := rfl
                      go_wp2
                      go_roundw
                      case rel => exact ⟨j + 1, by omega, by go_num, by rw [HS.out], hb⟩
                      case measure => simp [intOf]; omega
                · obtain rfl : j = (size + 1).toNat := by omega
                  have dlt : decide (((size + 1).toNat : Int) ≤ size) = false := decide_eq_false hlt
                  rw [WA.out]
                  have hB := below_then hB3 hb
                  go_wp2_with fail
                  go_ret
                  exact ⟨rfl, hB⟩
end Go.Proofs.Ytihgkeokhfmccaa
