/- Upper and Lower: with a greater level they come closer, and what is likely enough lies between them. -/
import Derived.Test.YtihgkeokhfmccaaJ12
import Derived.Test.YtihgkeokhfmccaaZ3MathF
namespace Go.Proofs.Ytihgkeokhfmccaa
open Go Go.RowKit

set_option maxHeartbeats 3200000 in
set_option maxRecDepth 100000 in
theorem SampleBounds_w (S : Sam) (n m t k : Int) (one two : Rt) (w : World) : Calls Try.prog 20 #[.int .i64 n, .int .i64 m, .int .i64 t, .int .i64 k, rtV one, rtV two] w fun e w' => e = .returned (.bool true) ∧ Below w.heap.size w w' := by
  have eqRt := Try.eqRt
  have eqSp := Try.eqSp
  have eqTr := Try.eqTr
  have eqBt := Try.eqBt
  have p1 := fun w => S.Upper n t k one w
  have p2 := fun w => S.Lower n t k one w
  have p3 := fun w => S.Upper n t k two w
  have p4 := fun w => S.Lower n t k two w
  rcases Bool.eq_false_or_eq_true (askB n t k one) with a1 | a1
  · rcases Bool.eq_false_or_eq_true (askB n t k two) with a2 | a2
    · rw [upperR_ok a1] at p1
      rw [lowerR_ok a1] at p2
      rw [upperR_ok a2] at p3
      rw [lowerR_ok a2] at p4
      obtain ⟨⟨b1, b2⟩, ⟨b3, b4⟩, ⟨b5, b6⟩, l1⟩ := ask_in a1
      have l2 := (ask_in a2).2.2.2
      obtain ⟨v1, v2, v3, v4⟩ := level_ok l1
      obtain ⟨u1, u2, u3, u4⟩ := level_ok l2
      have um := fun h => upper_mono (n := n) (t := t) (k := k) l1 l2 h n.toNat
      have lm := fun h => lower_mono (n := n.toNat) (t := t) (k := k) l1 l2 h n.toNat (Nat.le_refl _)
      have ur := upper_range n t k one n.toNat
      have lr := lower_range n.toNat t k one n.toNat (Nat.le_refl _)
      have ug := fun (h0 : 0 ≤ m) (h1 : m ≤ n) (h : chooseI n t * one.num ≤ atMostI n m t k * one.den) => upper_ge (n := n) (t := t) (k := k) (r := one) (m := m.toNat) (by rw [Int.toNat_of_nonneg h0]; exact h) n.toNat (by omega)
      have en : ((n.toNat : Nat) : Int) = n := by omega
      have ll := fun (h0 : 0 ≤ m) (h1 : m ≤ n) (h : chooseI n t * one.num ≤ (chooseI n t - atMostI n m t (k - 1)) * one.den) => lower_le (n := n.toNat) (t := t) (k := k) (r := one) (m := m) (by omega) (by rw [en]; exact h) n.toNat (by omega)
      have lm' := lm
      rw [en] at lr
      clear lm en
      generalize upperI n t k one n.toNat = a at *
      generalize upperI n t k two n.toNat = c at *
      generalize lowerI n.toNat t k one n.toNat = b at *
      generalize lowerI n.toNat t k two n.toNat = d at *
      have p5 := fun w => S.AtMost n m t k w
      have p6 := fun w => S.Choose n t w
      rw [chooseR_ok (by omega) b2 b3] at p6
      have p7 := fun w => S.AtMost n m t (k - 1) w
      have c1 := chooseI_pos (n := n) (k := t) b4
      have c2 := chooseI_le (n := n) t b2
      have x1 : 0 ≤ two.num * one.den ∧ two.num * one.den ≤ 100000000 := ⟨Int.mul_nonneg u3 (by omega), Int.le_trans (Int.mul_le_mul (show two.num ≤ 10000 by omega) v2 (by omega) (by omega)) (by omega)⟩
      have x2 : 0 ≤ one.num * two.den ∧ one.num * two.den ≤ 100000000 := ⟨Int.mul_nonneg v3 (by omega), Int.le_trans (Int.mul_le_mul (show one.num ≤ 10000 by omega) u2 (by omega) (by omega)) (by omega)⟩
      have x3 : 0 ≤ chooseI n t * one.num ∧ chooseI n t * one.num ≤ 1264106064377520000 := ⟨Int.mul_nonneg (by omega) v3, Int.le_trans (Int.mul_le_mul c2 (show one.num ≤ 10000 by omega) v3 (by omega)) (by omega)⟩
      obtain ⟨x11, x12⟩ := x1
      obtain ⟨x21, x22⟩ := x2
      obtain ⟨x31, x32⟩ := x3
      have P1 := Lib.hid p1
      have P2 := Lib.hid p2
      have P3 := Lib.hid p3
      have P4 := Lib.hid p4
      clear p1 p2 p3 p4
      unfold rtV
      go_enter Try.func20, Try.ntmps20
      go_wp2_with fail
      refine (head_c S _).mono ?_
      rintro e w1 ⟨he, hb1⟩
      subst he
      have hs1 := hb1.size
      simp only [World.size_alloc] at hs1
      have hF1 : Below w.heap.size w w1 := (below_then (below_alloc _ _) (below_then (below_alloc _ _) hb1))
      have hB1 := hF1
      have zo1 : w.heap.size < w1.heap.size := by omega
      have bo1 : w1.heap[w.heap.size]? = some (.cells #[.int .i64 one.num, .int .i64 one.den] 30) := (hb1.block (w.heap.size) (by simp <;> omega)).trans ((Below.heap_alloc _ _ _ (by simp)).trans (alloc_at w (.cells #[.int .i64 one.num, .int .i64 one.den] 30) (by first | rfl | simp)))
      have zu1 : w.heap.size + 1 < w1.heap.size := by omega
      have bu1 : w1.heap[w.heap.size + 1]? = some (.cells #[.int .i64 two.num, .int .i64 two.den] 30) := (hb1.block (w.heap.size + 1) (by simp)).trans (alloc_at (w.alloc (.cells #[.int .i64 one.num, .int .i64 one.den] 30)) (.cells #[.int .i64 two.num, .int .i64 two.den] 30) (by first | rfl | simp))
      clear hb1 hF1
      have co0 := Joins.cell_of_block bo1 0
      have co1 := Joins.cell_of_block bo1 1
      go_wp2_with fail
      refine (P1.out _).mono ?_
      rintro e w2 ⟨he, hb2⟩
      subst he
      have hs2 := hb2.size
      have hF2 : Below w1.heap.size w1 w2 := hb2
      have hB2 := below_then hB1 hF2
      have zo2 : w.heap.size < w2.heap.size := by omega
      have bo2 := (hF2.block (w.heap.size) zo1).trans bo1
      have zu2 : w.heap.size + 1 < w2.heap.size := by omega
      have bu2 := (hF2.block (w.heap.size + 1) zu1).trans bu1
      clear hb2 hF2 hB1 hs1 zo1 bo1 zu1 bu1 co0 co1
      have co0 := Joins.cell_of_block bo2 0
      have co1 := Joins.cell_of_block bo2 1
      go_wp2_with fail
      refine (P2.out _).mono ?_
      rintro e w3 ⟨he, hb3⟩
      subst he
      have hs3 := hb3.size
      have hF3 : Below w2.heap.size w2 w3 := hb3
      have hB3 := below_then hB2 hF3
      have zo3 : w.heap.size < w3.heap.size := by omega
      have bo3 := (hF3.block (w.heap.size) zo2).trans bo2
      have zu3 : w.heap.size + 1 < w3.heap.size := by omega
      have bu3 := (hF3.block (w.heap.size + 1) zu2).trans bu2
      clear hb3 hF3 hB2 hs2 zo2 bo2 zu2 bu2 co0 co1
      have cu0 := Joins.cell_of_block bu3 0
      have cu1 := Joins.cell_of_block bu3 1
      go_wp2_with fail
      refine (P3.out _).mono ?_
      rintro e w4 ⟨he, hb4⟩
      subst he
      have hs4 := hb4.size
      have hF4 : Below w3.heap.size w3 w4 := hb4
      have hB4 := below_then hB3 hF4
      have zo4 : w.heap.size < w4.heap.size := by omega
      have bo4 := (hF4.block (w.heap.size) zo3).trans bo3
      have zu4 : w.heap.size + 1 < w4.heap.size := by omega
      have bu4 := (hF4.block (w.heap.size + 1) zu3).trans bu3
      clear hb4 hF4 hB3 hs3 zo3 bo3 zu3 bu3 cu0 cu1
      have cu0 := Joins.cell_of_block bu4 0
      have cu1 := Joins.cell_of_block bu4 1
      go_wp2_with fail
      refine (P4.out _).mono ?_
      rintro e w5 ⟨he, hb5⟩
      subst he
      have hs5 := hb5.size
      have hF5 : Below w4.heap.size w4 w5 := hb5
      have hB5 := below_then hB4 hF5
      have zo5 : w.heap.size < w5.heap.size := by omega
      have bo5 := (hF5.block (w.heap.size) zo4).trans bo4
      have zu5 : w.heap.size + 1 < w5.heap.size := by omega
      have bu5 := (hF5.block (w.heap.size + 1) zu4).trans bu4
      clear hb5 hF5 hB4 hs4 zo4 bo4 zu4 bu4 cu0 cu1
      by_cases hle : one.num * two.den ≤ two.num * one.den
      · have e1 : decide (two.num * one.den ≥ one.num * two.den) = true := decide_eq_true hle
        have e2 : decide (c > a) = false := decide_eq_false (by have := um hle; omega)
        have e3 : decide (d < b) = false := decide_eq_false (by have := lm' hle; omega)
        clear um lm'
        have co0 := Joins.cell_of_block bo5 0
        have co1 := Joins.cell_of_block bo5 1
        have cu0 := Joins.cell_of_block bu5 0
        have cu1 := Joins.cell_of_block bu5 1
        by_cases hm : 0 ≤ m ∧ m ≤ n
        · rw [atMostR_ok ⟨b1, b2⟩ hm ⟨b3, b4⟩ b5] at p5
          have t1 := atMost_le (n := n) hm.1 hm.2 b3 k
          have t2 := atMost_le (n := n) hm.1 hm.2 b3 (k - 1)
          have y1 : 0 ≤ atMostI n m t k * one.den ∧ atMostI n m t k * one.den ≤ 1264106064377520000 := ⟨Int.mul_nonneg t1.1 (by omega), Int.le_trans (Int.mul_le_mul (Int.le_trans t1.2 c2) v2 (by omega) (by omega)) (by omega)⟩
          have y2 : 0 ≤ (chooseI n t - atMostI n m t (k - 1)) * one.den ∧ (chooseI n t - atMostI n m t (k - 1)) * one.den ≤ 1264106064377520000 := ⟨Int.mul_nonneg (by omega) (by omega), Int.le_trans (Int.mul_le_mul (show chooseI n t - atMostI n m t (k - 1) ≤ 126410606437752 by omega) v2 (by omega) (by omega)) (by omega)⟩
          have g1 := ug hm.1 hm.2
          have g2 := ll hm.1 hm.2
          clear ug ll
          have P5 := Lib.hid p5
          have P6 := Lib.hid p6
          clear p5 p6
          by_cases hk : k > 0
          · rw [atMostR_ok ⟨b1, b2⟩ hm ⟨b3, b4⟩ (by omega)] at p7
            have P7 := Lib.hid p7
            clear p7
            have d0 : decide (k > 0) = true := decide_eq_true hk
            go_wp2_with fail
            refine (P5.out _).mono ?_
            rintro e w6 ⟨he, hb6⟩
            subst he
            have hs6 := hb6.size
            have hF6 : Below w5.heap.size w5 w6 := hb6
            have hB6 := below_then hB5 hF6
            have zo6 : w.heap.size < w6.heap.size := by omega
            have bo6 := (hF6.block (w.heap.size) zo5).trans bo5
            have zu6 : w.heap.size + 1 < w6.heap.size := by omega
            have bu6 := (hF6.block (w.heap.size + 1) zu5).trans bu5
            clear hb6 hF6 hB5 hs5 zo5 bo5 zu5 bu5 co0 co1 cu0 cu1
            go_wp2_with fail
            refine (P6.out _).mono ?_
            rintro e w7 ⟨he, hb7⟩
            subst he
            have hs7 := hb7.size
            have hF7 : Below w6.heap.size w6 w7 := hb7
            have hB7 := below_then hB6 hF7
            have zo7 : w.heap.size < w7.heap.size := by omega
            have bo7 := (hF7.block (w.heap.size) zo6).trans bo6
            have zu7 : w.heap.size + 1 < w7.heap.size := by omega
            have bu7 := (hF7.block (w.heap.size + 1) zu6).trans bu6
            clear hb7 hF7 hB6 hs6 zo6 bo6 zu6 bu6
            go_wp2_with fail
            refine (P7.out _).mono ?_
            rintro e w8 ⟨he, hb8⟩
            subst he
            have hs8 := hb8.size
            have hF8 : Below w7.heap.size w7 w8 := hb8
            have hB8 := below_then hB7 hF8
            have zo8 : w.heap.size < w8.heap.size := by omega
            have bo8 := (hF8.block (w.heap.size) zo7).trans bo7
            have zu8 : w.heap.size + 1 < w8.heap.size := by omega
            have bu8 := (hF8.block (w.heap.size + 1) zu7).trans bu7
            clear hb8 hF8 hB7 hs7 zo7 bo7 zu7 bu7
            by_cases s1 : chooseI n t * one.num ≤ atMostI n m t k * one.den
            · by_cases s2 : chooseI n t * one.num ≤ (chooseI n t - atMostI n m t (k - 1)) * one.den
              · have d1 : decide (atMostI n m t k * one.den ≥ chooseI n t * one.num) = true := decide_eq_true s1
                have d2 : decide ((chooseI n t - atMostI n m t (k - 1)) * one.den ≥ chooseI n t * one.num) = true := decide_eq_true s2
                have d3 : decide (m ≤ a) = true := decide_eq_true (by have := g1 s1; omega)
                have d4 : decide (m ≥ b) = true := decide_eq_true (g2 s2)
                clear g1 g2
                have co0 := Joins.cell_of_block bo8 0
                have co1 := Joins.cell_of_block bo8 1
                go_wp2_with fail
                go_ret
                exact ⟨rfl, hB8⟩
              · have d1 : decide (atMostI n m t k * one.den ≥ chooseI n t * one.num) = true := decide_eq_true s1
                have d2 : decide ((chooseI n t - atMostI n m t (k - 1)) * one.den ≥ chooseI n t * one.num) = false := decide_eq_false s2
                have d3 : decide (m ≤ a) = true := decide_eq_true (by have := g1 s1; omega)
                clear g1 g2
                have co0 := Joins.cell_of_block bo8 0
                have co1 := Joins.cell_of_block bo8 1
                go_wp2_with fail
                go_ret
                exact ⟨rfl, hB8⟩
            · by_cases s2 : chooseI n t * one.num ≤ (chooseI n t - atMostI n m t (k - 1)) * one.den
              · have d1 : decide (atMostI n m t k * one.den ≥ chooseI n t * one.num) = false := decide_eq_false s1
                have d2 : decide ((chooseI n t - atMostI n m t (k - 1)) * one.den ≥ chooseI n t * one.num) = true := decide_eq_true s2
                have d4 : decide (m ≥ b) = true := decide_eq_true (g2 s2)
                clear g1 g2
                have co0 := Joins.cell_of_block bo8 0
                have co1 := Joins.cell_of_block bo8 1
                go_wp2_with fail
                go_ret
                exact ⟨rfl, hB8⟩
              · have d1 : decide (atMostI n m t k * one.den ≥ chooseI n t * one.num) = false := decide_eq_false s1
                have d2 : decide ((chooseI n t - atMostI n m t (k - 1)) * one.den ≥ chooseI n t * one.num) = false := decide_eq_false s2
                clear g1 g2
                have co0 := Joins.cell_of_block bo8 0
                have co1 := Joins.cell_of_block bo8 1
                go_wp2_with fail
                go_ret
                exact ⟨rfl, hB8⟩
          · clear p7
            have d0 : decide (k > 0) = false := decide_eq_false hk
            rw [atMost_no (by omega : k - 1 < 0), Int.sub_zero] at g2 y2
            go_wp2_with fail
            refine (P5.out _).mono ?_
            rintro e w6 ⟨he, hb6⟩
            subst he
            have hs6 := hb6.size
            have hF6 : Below w5.heap.size w5 w6 := hb6
            have hB6 := below_then hB5 hF6
            have zo6 : w.heap.size < w6.heap.size := by omega
            have bo6 := (hF6.block (w.heap.size) zo5).trans bo5
            have zu6 : w.heap.size + 1 < w6.heap.size := by omega
            have bu6 := (hF6.block (w.heap.size + 1) zu5).trans bu5
            clear hb6 hF6 hB5 hs5 zo5 bo5 zu5 bu5 co0 co1 cu0 cu1
            go_wp2_with fail
            refine (P6.out _).mono ?_
            rintro e w7 ⟨he, hb7⟩
            subst he
            have hs7 := hb7.size
            have hF7 : Below w6.heap.size w6 w7 := hb7
            have hB7 := below_then hB6 hF7
            have zo7 : w.heap.size < w7.heap.size := by omega
            have bo7 := (hF7.block (w.heap.size) zo6).trans bo6
            have zu7 : w.heap.size + 1 < w7.heap.size := by omega
            have bu7 := (hF7.block (w.heap.size + 1) zu6).trans bu6
            clear hb7 hF7 hB6 hs6 zo6 bo6 zu6 bu6
            by_cases s1 : chooseI n t * one.num ≤ atMostI n m t k * one.den
            · by_cases s2 : chooseI n t * one.num ≤ (chooseI n t) * one.den
              · have d1 : decide (atMostI n m t k * one.den ≥ chooseI n t * one.num) = true := decide_eq_true s1
                have d2 : decide ((chooseI n t) * one.den ≥ chooseI n t * one.num) = true := decide_eq_true s2
                have d3 : decide (m ≤ a) = true := decide_eq_true (by have := g1 s1; omega)
                have d4 : decide (m ≥ b) = true := decide_eq_true (g2 s2)
                clear g1 g2
                have co0 := Joins.cell_of_block bo7 0
                have co1 := Joins.cell_of_block bo7 1
                go_wp2_with fail
                go_ret
                exact ⟨rfl, hB7⟩
              · have d1 : decide (atMostI n m t k * one.den ≥ chooseI n t * one.num) = true := decide_eq_true s1
                have d2 : decide ((chooseI n t) * one.den ≥ chooseI n t * one.num) = false := decide_eq_false s2
                have d3 : decide (m ≤ a) = true := decide_eq_true (by have := g1 s1; omega)
                clear g1 g2
                have co0 := Joins.cell_of_block bo7 0
                have co1 := Joins.cell_of_block bo7 1
                go_wp2_with fail
                go_ret
                exact ⟨rfl, hB7⟩
            · by_cases s2 : chooseI n t * one.num ≤ (chooseI n t) * one.den
              · have d1 : decide (atMostI n m t k * one.den ≥ chooseI n t * one.num) = false := decide_eq_false s1
                have d2 : decide ((chooseI n t) * one.den ≥ chooseI n t * one.num) = true := decide_eq_true s2
                have d4 : decide (m ≥ b) = true := decide_eq_true (g2 s2)
                clear g1 g2
                have co0 := Joins.cell_of_block bo7 0
                have co1 := Joins.cell_of_block bo7 1
                go_wp2_with fail
                go_ret
                exact ⟨rfl, hB7⟩
              · have d1 : decide (atMostI n m t k * one.den ≥ chooseI n t * one.num) = false := decide_eq_false s1
                have d2 : decide ((chooseI n t) * one.den ≥ chooseI n t * one.num) = false := decide_eq_false s2
                clear g1 g2
                have co0 := Joins.cell_of_block bo7 0
                have co1 := Joins.cell_of_block bo7 1
                go_wp2_with fail
                go_ret
                exact ⟨rfl, hB7⟩
        · rw [atMostR_bad (by omega)] at p5
          have P5 := Lib.hid p5
          have P6 := Lib.hid p6
          clear p5 p6 p7 ug ll hm
          go_wp2_with fail
          refine (P5.out _).mono ?_
          rintro e w6 ⟨he, hb6⟩
          subst he
          have hs6 := hb6.size
          have hF6 : Below w5.heap.size w5 w6 := hb6
          have hB6 := below_then hB5 hF6
          have zo6 : w.heap.size < w6.heap.size := by omega
          have bo6 := (hF6.block (w.heap.size) zo5).trans bo5
          have zu6 : w.heap.size + 1 < w6.heap.size := by omega
          have bu6 := (hF6.block (w.heap.size + 1) zu5).trans bu5
          clear hb6 hF6 hB5 hs5 zo5 bo5 zu5 bu5 co0 co1 cu0 cu1
          go_wp2_with fail
          refine (P6.out _).mono ?_
          rintro e w7 ⟨he, hb7⟩
          subst he
          have hs7 := hb7.size
          have hF7 : Below w6.heap.size w6 w7 := hb7
          have hB7 := below_then hB6 hF7
          have zo7 : w.heap.size < w7.heap.size := by omega
          have bo7 := (hF7.block (w.heap.size) zo6).trans bo6
          have zu7 : w.heap.size + 1 < w7.heap.size := by omega
          have bu7 := (hF7.block (w.heap.size + 1) zu6).trans bu6
          clear hb7 hF7 hB6 hs6 zo6 bo6 zu6 bu6
          go_wp2_with fail
          go_ret
          exact ⟨rfl, hB7⟩
      · have e1 : decide (two.num * one.den ≥ one.num * two.den) = false := decide_eq_false hle
        clear um lm'
        have co0 := Joins.cell_of_block bo5 0
        have co1 := Joins.cell_of_block bo5 1
        have cu0 := Joins.cell_of_block bu5 0
        have cu1 := Joins.cell_of_block bu5 1
        by_cases hm : 0 ≤ m ∧ m ≤ n
        · rw [atMostR_ok ⟨b1, b2⟩ hm ⟨b3, b4⟩ b5] at p5
          have t1 := atMost_le (n := n) hm.1 hm.2 b3 k
          have t2 := atMost_le (n := n) hm.1 hm.2 b3 (k - 1)
          have y1 : 0 ≤ atMostI n m t k * one.den ∧ atMostI n m t k * one.den ≤ 1264106064377520000 := ⟨Int.mul_nonneg t1.1 (by omega), Int.le_trans (Int.mul_le_mul (Int.le_trans t1.2 c2) v2 (by omega) (by omega)) (by omega)⟩
          have y2 : 0 ≤ (chooseI n t - atMostI n m t (k - 1)) * one.den ∧ (chooseI n t - atMostI n m t (k - 1)) * one.den ≤ 1264106064377520000 := ⟨Int.mul_nonneg (by omega) (by omega), Int.le_trans (Int.mul_le_mul (show chooseI n t - atMostI n m t (k - 1) ≤ 126410606437752 by omega) v2 (by omega) (by omega)) (by omega)⟩
          have g1 := ug hm.1 hm.2
          have g2 := ll hm.1 hm.2
          clear ug ll
          have P5 := Lib.hid p5
          have P6 := Lib.hid p6
          clear p5 p6
          by_cases hk : k > 0
          · rw [atMostR_ok ⟨b1, b2⟩ hm ⟨b3, b4⟩ (by omega)] at p7
            have P7 := Lib.hid p7
            clear p7
            have d0 : decide (k > 0) = true := decide_eq_true hk
            go_wp2_with fail
            refine (P5.out _).mono ?_
            rintro e w6 ⟨he, hb6⟩
            subst he
            have hs6 := hb6.size
            have hF6 : Below w5.heap.size w5 w6 := hb6
            have hB6 := below_then hB5 hF6
            have zo6 : w.heap.size < w6.heap.size := by omega
            have bo6 := (hF6.block (w.heap.size) zo5).trans bo5
            have zu6 : w.heap.size + 1 < w6.heap.size := by omega
            have bu6 := (hF6.block (w.heap.size + 1) zu5).trans bu5
            clear hb6 hF6 hB5 hs5 zo5 bo5 zu5 bu5 co0 co1 cu0 cu1
            go_wp2_with fail
            refine (P6.out _).mono ?_
            rintro e w7 ⟨he, hb7⟩
            subst he
            have hs7 := hb7.size
            have hF7 : Below w6.heap.size w6 w7 := hb7
            have hB7 := below_then hB6 hF7
            have zo7 : w.heap.size < w7.heap.size := by omega
            have bo7 := (hF7.block (w.heap.size) zo6).trans bo6
            have zu7 : w.heap.size + 1 < w7.heap.size := by omega
            have bu7 := (hF7.block (w.heap.size + 1) zu6).trans bu6
            clear hb7 hF7 hB6 hs6 zo6 bo6 zu6 bu6
            go_wp2_with fail
            refine (P7.out _).mono ?_
            rintro e w8 ⟨he, hb8⟩
            subst he
            have hs8 := hb8.size
            have hF8 : Below w7.heap.size w7 w8 := hb8
            have hB8 := below_then hB7 hF8
            have zo8 : w.heap.size < w8.heap.size := by omega
            have bo8 := (hF8.block (w.heap.size) zo7).trans bo7
            have zu8 : w.heap.size + 1 < w8.heap.size := by omega
            have bu8 := (hF8.block (w.heap.size + 1) zu7).trans bu7
            clear hb8 hF8 hB7 hs7 zo7 bo7 zu7 bu7
            by_cases s1 : chooseI n t * one.num ≤ atMostI n m t k * one.den
            · by_cases s2 : chooseI n t * one.num ≤ (chooseI n t - atMostI n m t (k - 1)) * one.den
              · have d1 : decide (atMostI n m t k * one.den ≥ chooseI n t * one.num) = true := decide_eq_true s1
                have d2 : decide ((chooseI n t - atMostI n m t (k - 1)) * one.den ≥ chooseI n t * one.num) = true := decide_eq_true s2
                have d3 : decide (m ≤ a) = true := decide_eq_true (by have := g1 s1; omega)
                have d4 : decide (m ≥ b) = true := decide_eq_true (g2 s2)
                clear g1 g2
                have co0 := Joins.cell_of_block bo8 0
                have co1 := Joins.cell_of_block bo8 1
                go_wp2_with fail
                go_ret
                exact ⟨rfl, hB8⟩
              · have d1 : decide (atMostI n m t k * one.den ≥ chooseI n t * one.num) = true := decide_eq_true s1
                have d2 : decide ((chooseI n t - atMostI n m t (k - 1)) * one.den ≥ chooseI n t * one.num) = false := decide_eq_false s2
                have d3 : decide (m ≤ a) = true := decide_eq_true (by have := g1 s1; omega)
                clear g1 g2
                have co0 := Joins.cell_of_block bo8 0
                have co1 := Joins.cell_of_block bo8 1
                go_wp2_with fail
                go_ret
                exact ⟨rfl, hB8⟩
            · by_cases s2 : chooseI n t * one.num ≤ (chooseI n t - atMostI n m t (k - 1)) * one.den
              · have d1 : decide (atMostI n m t k * one.den ≥ chooseI n t * one.num) = false := decide_eq_false s1
                have d2 : decide ((chooseI n t - atMostI n m t (k - 1)) * one.den ≥ chooseI n t * one.num) = true := decide_eq_true s2
                have d4 : decide (m ≥ b) = true := decide_eq_true (g2 s2)
                clear g1 g2
                have co0 := Joins.cell_of_block bo8 0
                have co1 := Joins.cell_of_block bo8 1
                go_wp2_with fail
                go_ret
                exact ⟨rfl, hB8⟩
              · have d1 : decide (atMostI n m t k * one.den ≥ chooseI n t * one.num) = false := decide_eq_false s1
                have d2 : decide ((chooseI n t - atMostI n m t (k - 1)) * one.den ≥ chooseI n t * one.num) = false := decide_eq_false s2
                clear g1 g2
                have co0 := Joins.cell_of_block bo8 0
                have co1 := Joins.cell_of_block bo8 1
                go_wp2_with fail
                go_ret
                exact ⟨rfl, hB8⟩
          · clear p7
            have d0 : decide (k > 0) = false := decide_eq_false hk
            rw [atMost_no (by omega : k - 1 < 0), Int.sub_zero] at g2 y2
            go_wp2_with fail
            refine (P5.out _).mono ?_
            rintro e w6 ⟨he, hb6⟩
            subst he
            have hs6 := hb6.size
            have hF6 : Below w5.heap.size w5 w6 := hb6
            have hB6 := below_then hB5 hF6
            have zo6 : w.heap.size < w6.heap.size := by omega
            have bo6 := (hF6.block (w.heap.size) zo5).trans bo5
            have zu6 : w.heap.size + 1 < w6.heap.size := by omega
            have bu6 := (hF6.block (w.heap.size + 1) zu5).trans bu5
            clear hb6 hF6 hB5 hs5 zo5 bo5 zu5 bu5 co0 co1 cu0 cu1
            go_wp2_with fail
            refine (P6.out _).mono ?_
            rintro e w7 ⟨he, hb7⟩
            subst he
            have hs7 := hb7.size
            have hF7 : Below w6.heap.size w6 w7 := hb7
            have hB7 := below_then hB6 hF7
            have zo7 : w.heap.size < w7.heap.size := by omega
            have bo7 := (hF7.block (w.heap.size) zo6).trans bo6
            have zu7 : w.heap.size + 1 < w7.heap.size := by omega
            have bu7 := (hF7.block (w.heap.size + 1) zu6).trans bu6
            clear hb7 hF7 hB6 hs6 zo6 bo6 zu6 bu6
            by_cases s1 : chooseI n t * one.num ≤ atMostI n m t k * one.den
            · by_cases s2 : chooseI n t * one.num ≤ (chooseI n t) * one.den
              · have d1 : decide (atMostI n m t k * one.den ≥ chooseI n t * one.num) = true := decide_eq_true s1
                have d2 : decide ((chooseI n t) * one.den ≥ chooseI n t * one.num) = true := decide_eq_true s2
                have d3 : decide (m ≤ a) = true := decide_eq_true (by have := g1 s1; omega)
                have d4 : decide (m ≥ b) = true := decide_eq_true (g2 s2)
                clear g1 g2
                have co0 := Joins.cell_of_block bo7 0
                have co1 := Joins.cell_of_block bo7 1
                go_wp2_with fail
                go_ret
                exact ⟨rfl, hB7⟩
              · have d1 : decide (atMostI n m t k * one.den ≥ chooseI n t * one.num) = true := decide_eq_true s1
                have d2 : decide ((chooseI n t) * one.den ≥ chooseI n t * one.num) = false := decide_eq_false s2
                have d3 : decide (m ≤ a) = true := decide_eq_true (by have := g1 s1; omega)
                clear g1 g2
                have co0 := Joins.cell_of_block bo7 0
                have co1 := Joins.cell_of_block bo7 1
                go_wp2_with fail
                go_ret
                exact ⟨rfl, hB7⟩
            · by_cases s2 : chooseI n t * one.num ≤ (chooseI n t) * one.den
              · have d1 : decide (atMostI n m t k * one.den ≥ chooseI n t * one.num) = false := decide_eq_false s1
                have d2 : decide ((chooseI n t) * one.den ≥ chooseI n t * one.num) = true := decide_eq_true s2
                have d4 : decide (m ≥ b) = true := decide_eq_true (g2 s2)
                clear g1 g2
                have co0 := Joins.cell_of_block bo7 0
                have co1 := Joins.cell_of_block bo7 1
                go_wp2_with fail
                go_ret
                exact ⟨rfl, hB7⟩
              · have d1 : decide (atMostI n m t k * one.den ≥ chooseI n t * one.num) = false := decide_eq_false s1
                have d2 : decide ((chooseI n t) * one.den ≥ chooseI n t * one.num) = false := decide_eq_false s2
                clear g1 g2
                have co0 := Joins.cell_of_block bo7 0
                have co1 := Joins.cell_of_block bo7 1
                go_wp2_with fail
                go_ret
                exact ⟨rfl, hB7⟩
        · rw [atMostR_bad (by omega)] at p5
          have P5 := Lib.hid p5
          have P6 := Lib.hid p6
          clear p5 p6 p7 ug ll hm
          go_wp2_with fail
          refine (P5.out _).mono ?_
          rintro e w6 ⟨he, hb6⟩
          subst he
          have hs6 := hb6.size
          have hF6 : Below w5.heap.size w5 w6 := hb6
          have hB6 := below_then hB5 hF6
          have zo6 : w.heap.size < w6.heap.size := by omega
          have bo6 := (hF6.block (w.heap.size) zo5).trans bo5
          have zu6 : w.heap.size + 1 < w6.heap.size := by omega
          have bu6 := (hF6.block (w.heap.size + 1) zu5).trans bu5
          clear hb6 hF6 hB5 hs5 zo5 bo5 zu5 bu5 co0 co1 cu0 cu1
          go_wp2_with fail
          refine (P6.out _).mono ?_
          rintro e w7 ⟨he, hb7⟩
          subst he
          have hs7 := hb7.size
          have hF7 : Below w6.heap.size w6 w7 := hb7
          have hB7 := below_then hB6 hF7
          have zo7 : w.heap.size < w7.heap.size := by omega
          have bo7 := (hF7.block (w.heap.size) zo6).trans bo6
          have zu7 : w.heap.size + 1 < w7.heap.size := by omega
          have bu7 := (hF7.block (w.heap.size + 1) zu6).trans bu6
          clear hb7 hF7 hB6 hs6 zo6 bo6 zu6 bu6
          go_wp2_with fail
          go_ret
          exact ⟨rfl, hB7⟩
    · rw [upperR_ok a1] at p1
      rw [lowerR_ok a1] at p2
      rw [upperR_bad a2] at p3
      rw [lowerR_bad a2] at p4
      have P1 := Lib.hid p1
      have P2 := Lib.hid p2
      have P3 := Lib.hid p3
      have P4 := Lib.hid p4
      clear p1 p2 p3 p4
      unfold rtV
      go_enter Try.func20, Try.ntmps20
      go_wp2_with fail
      refine (head_c S _).mono ?_
      rintro e w1 ⟨he, hb1⟩
      subst he
      have hs1 := hb1.size
      simp only [World.size_alloc] at hs1
      have hF1 : Below w.heap.size w w1 := (below_then (below_alloc _ _) (below_then (below_alloc _ _) hb1))
      have hB1 := hF1
      have zo1 : w.heap.size < w1.heap.size := by omega
      have bo1 : w1.heap[w.heap.size]? = some (.cells #[.int .i64 one.num, .int .i64 one.den] 30) := (hb1.block (w.heap.size) (by simp <;> omega)).trans ((Below.heap_alloc _ _ _ (by simp)).trans (alloc_at w (.cells #[.int .i64 one.num, .int .i64 one.den] 30) (by first | rfl | simp)))
      have zu1 : w.heap.size + 1 < w1.heap.size := by omega
      have bu1 : w1.heap[w.heap.size + 1]? = some (.cells #[.int .i64 two.num, .int .i64 two.den] 30) := (hb1.block (w.heap.size + 1) (by simp)).trans (alloc_at (w.alloc (.cells #[.int .i64 one.num, .int .i64 one.den] 30)) (.cells #[.int .i64 two.num, .int .i64 two.den] 30) (by first | rfl | simp))
      clear hb1 hF1
      have co0 := Joins.cell_of_block bo1 0
      have co1 := Joins.cell_of_block bo1 1
      go_wp2_with fail
      refine (P1.out _).mono ?_
      rintro e w2 ⟨he, hb2⟩
      subst he
      have hs2 := hb2.size
      have hF2 : Below w1.heap.size w1 w2 := hb2
      have hB2 := below_then hB1 hF2
      have zo2 : w.heap.size < w2.heap.size := by omega
      have bo2 := (hF2.block (w.heap.size) zo1).trans bo1
      have zu2 : w.heap.size + 1 < w2.heap.size := by omega
      have bu2 := (hF2.block (w.heap.size + 1) zu1).trans bu1
      clear hb2 hF2 hB1 hs1 zo1 bo1 zu1 bu1 co0 co1
      have co0 := Joins.cell_of_block bo2 0
      have co1 := Joins.cell_of_block bo2 1
      go_wp2_with fail
      refine (P2.out _).mono ?_
      rintro e w3 ⟨he, hb3⟩
      subst he
      have hs3 := hb3.size
      have hF3 : Below w2.heap.size w2 w3 := hb3
      have hB3 := below_then hB2 hF3
      have zo3 : w.heap.size < w3.heap.size := by omega
      have bo3 := (hF3.block (w.heap.size) zo2).trans bo2
      have zu3 : w.heap.size + 1 < w3.heap.size := by omega
      have bu3 := (hF3.block (w.heap.size + 1) zu2).trans bu2
      clear hb3 hF3 hB2 hs2 zo2 bo2 zu2 bu2 co0 co1
      have cu0 := Joins.cell_of_block bu3 0
      have cu1 := Joins.cell_of_block bu3 1
      go_wp2_with fail
      refine (P3.out _).mono ?_
      rintro e w4 ⟨he, hb4⟩
      subst he
      have hs4 := hb4.size
      have hF4 : Below w3.heap.size w3 w4 := hb4
      have hB4 := below_then hB3 hF4
      have zo4 : w.heap.size < w4.heap.size := by omega
      have bo4 := (hF4.block (w.heap.size) zo3).trans bo3
      have zu4 : w.heap.size + 1 < w4.heap.size := by omega
      have bu4 := (hF4.block (w.heap.size + 1) zu3).trans bu3
      clear hb4 hF4 hB3 hs3 zo3 bo3 zu3 bu3 cu0 cu1
      have cu0 := Joins.cell_of_block bu4 0
      have cu1 := Joins.cell_of_block bu4 1
      go_wp2_with fail
      refine (P4.out _).mono ?_
      rintro e w5 ⟨he, hb5⟩
      subst he
      have hs5 := hb5.size
      have hF5 : Below w4.heap.size w4 w5 := hb5
      have hB5 := below_then hB4 hF5
      have zo5 : w.heap.size < w5.heap.size := by omega
      have bo5 := (hF5.block (w.heap.size) zo4).trans bo4
      have zu5 : w.heap.size + 1 < w5.heap.size := by omega
      have bu5 := (hF5.block (w.heap.size + 1) zu4).trans bu4
      clear hb5 hF5 hB4 hs4 zo4 bo4 zu4 bu4 cu0 cu1
      go_wp2_with fail
      go_ret
      exact ⟨rfl, hB5⟩
  · rcases Bool.eq_false_or_eq_true (askB n t k two) with a2 | a2
    · rw [upperR_bad a1] at p1
      rw [lowerR_bad a1] at p2
      rw [upperR_ok a2] at p3
      rw [lowerR_ok a2] at p4
      have P1 := Lib.hid p1
      have P2 := Lib.hid p2
      have P3 := Lib.hid p3
      have P4 := Lib.hid p4
      clear p1 p2 p3 p4
      unfold rtV
      go_enter Try.func20, Try.ntmps20
      go_wp2_with fail
      refine (head_c S _).mono ?_
      rintro e w1 ⟨he, hb1⟩
      subst he
      have hs1 := hb1.size
      simp only [World.size_alloc] at hs1
      have hF1 : Below w.heap.size w w1 := (below_then (below_alloc _ _) (below_then (below_alloc _ _) hb1))
      have hB1 := hF1
      have zo1 : w.heap.size < w1.heap.size := by omega
      have bo1 : w1.heap[w.heap.size]? = some (.cells #[.int .i64 one.num, .int .i64 one.den] 30) := (hb1.block (w.heap.size) (by simp <;> omega)).trans ((Below.heap_alloc _ _ _ (by simp)).trans (alloc_at w (.cells #[.int .i64 one.num, .int .i64 one.den] 30) (by first | rfl | simp)))
      have zu1 : w.heap.size + 1 < w1.heap.size := by omega
      have bu1 : w1.heap[w.heap.size + 1]? = some (.cells #[.int .i64 two.num, .int .i64 two.den] 30) := (hb1.block (w.heap.size + 1) (by simp)).trans (alloc_at (w.alloc (.cells #[.int .i64 one.num, .int .i64 one.den] 30)) (.cells #[.int .i64 two.num, .int .i64 two.den] 30) (by first | rfl | simp))
      clear hb1 hF1
      have co0 := Joins.cell_of_block bo1 0
      have co1 := Joins.cell_of_block bo1 1
      go_wp2_with fail
      refine (P1.out _).mono ?_
      rintro e w2 ⟨he, hb2⟩
      subst he
      have hs2 := hb2.size
      have hF2 : Below w1.heap.size w1 w2 := hb2
      have hB2 := below_then hB1 hF2
      have zo2 : w.heap.size < w2.heap.size := by omega
      have bo2 := (hF2.block (w.heap.size) zo1).trans bo1
      have zu2 : w.heap.size + 1 < w2.heap.size := by omega
      have bu2 := (hF2.block (w.heap.size + 1) zu1).trans bu1
      clear hb2 hF2 hB1 hs1 zo1 bo1 zu1 bu1 co0 co1
      have co0 := Joins.cell_of_block bo2 0
      have co1 := Joins.cell_of_block bo2 1
      go_wp2_with fail
      refine (P2.out _).mono ?_
      rintro e w3 ⟨he, hb3⟩
      subst he
      have hs3 := hb3.size
      have hF3 : Below w2.heap.size w2 w3 := hb3
      have hB3 := below_then hB2 hF3
      have zo3 : w.heap.size < w3.heap.size := by omega
      have bo3 := (hF3.block (w.heap.size) zo2).trans bo2
      have zu3 : w.heap.size + 1 < w3.heap.size := by omega
      have bu3 := (hF3.block (w.heap.size + 1) zu2).trans bu2
      clear hb3 hF3 hB2 hs2 zo2 bo2 zu2 bu2 co0 co1
      have cu0 := Joins.cell_of_block bu3 0
      have cu1 := Joins.cell_of_block bu3 1
      go_wp2_with fail
      refine (P3.out _).mono ?_
      rintro e w4 ⟨he, hb4⟩
      subst he
      have hs4 := hb4.size
      have hF4 : Below w3.heap.size w3 w4 := hb4
      have hB4 := below_then hB3 hF4
      have zo4 : w.heap.size < w4.heap.size := by omega
      have bo4 := (hF4.block (w.heap.size) zo3).trans bo3
      have zu4 : w.heap.size + 1 < w4.heap.size := by omega
      have bu4 := (hF4.block (w.heap.size + 1) zu3).trans bu3
      clear hb4 hF4 hB3 hs3 zo3 bo3 zu3 bu3 cu0 cu1
      have cu0 := Joins.cell_of_block bu4 0
      have cu1 := Joins.cell_of_block bu4 1
      go_wp2_with fail
      refine (P4.out _).mono ?_
      rintro e w5 ⟨he, hb5⟩
      subst he
      have hs5 := hb5.size
      have hF5 : Below w4.heap.size w4 w5 := hb5
      have hB5 := below_then hB4 hF5
      have zo5 : w.heap.size < w5.heap.size := by omega
      have bo5 := (hF5.block (w.heap.size) zo4).trans bo4
      have zu5 : w.heap.size + 1 < w5.heap.size := by omega
      have bu5 := (hF5.block (w.heap.size + 1) zu4).trans bu4
      clear hb5 hF5 hB4 hs4 zo4 bo4 zu4 bu4 cu0 cu1
      go_wp2_with fail
      go_ret
      exact ⟨rfl, hB5⟩
    · rw [upperR_bad a1] at p1
      rw [lowerR_bad a1] at p2
      rw [upperR_bad a2] at p3
      rw [lowerR_bad a2] at p4
      have P1 := Lib.hid p1
      have P2 := Lib.hid p2
      have P3 := Lib.hid p3
      have P4 := Lib.hid p4
      clear p1 p2 p3 p4
      unfold rtV
      go_enter Try.func20, Try.ntmps20
      go_wp2_with fail
      refine (head_c S _).mono ?_
      rintro e w1 ⟨he, hb1⟩
      subst he
      have hs1 := hb1.size
      simp only [World.size_alloc] at hs1
      have hF1 : Below w.heap.size w w1 := (below_then (below_alloc _ _) (below_then (below_alloc _ _) hb1))
      have hB1 := hF1
      have zo1 : w.heap.size < w1.heap.size := by omega
      have bo1 : w1.heap[w.heap.size]? = some (.cells #[.int .i64 one.num, .int .i64 one.den] 30) := (hb1.block (w.heap.size) (by simp <;> omega)).trans ((Below.heap_alloc _ _ _ (by simp)).trans (alloc_at w (.cells #[.int .i64 one.num, .int .i64 one.den] 30) (by first | rfl | simp)))
      have zu1 : w.heap.size + 1 < w1.heap.size := by omega
      have bu1 : w1.heap[w.heap.size + 1]? = some (.cells #[.int .i64 two.num, .int .i64 two.den] 30) := (hb1.block (w.heap.size + 1) (by simp)).trans (alloc_at (w.alloc (.cells #[.int .i64 one.num, .int .i64 one.den] 30)) (.cells #[.int .i64 two.num, .int .i64 two.den] 30) (by first | rfl | simp))
      clear hb1 hF1
      have co0 := Joins.cell_of_block bo1 0
      have co1 := Joins.cell_of_block bo1 1
      go_wp2_with fail
      refine (P1.out _).mono ?_
      rintro e w2 ⟨he, hb2⟩
      subst he
      have hs2 := hb2.size
      have hF2 : Below w1.heap.size w1 w2 := hb2
      have hB2 := below_then hB1 hF2
      have zo2 : w.heap.size < w2.heap.size := by omega
      have bo2 := (hF2.block (w.heap.size) zo1).trans bo1
      have zu2 : w.heap.size + 1 < w2.heap.size := by omega
      have bu2 := (hF2.block (w.heap.size + 1) zu1).trans bu1
      clear hb2 hF2 hB1 hs1 zo1 bo1 zu1 bu1 co0 co1
      have co0 := Joins.cell_of_block bo2 0
      have co1 := Joins.cell_of_block bo2 1
      go_wp2_with fail
      refine (P2.out _).mono ?_
      rintro e w3 ⟨he, hb3⟩
      subst he
      have hs3 := hb3.size
      have hF3 : Below w2.heap.size w2 w3 := hb3
      have hB3 := below_then hB2 hF3
      have zo3 : w.heap.size < w3.heap.size := by omega
      have bo3 := (hF3.block (w.heap.size) zo2).trans bo2
      have zu3 : w.heap.size + 1 < w3.heap.size := by omega
      have bu3 := (hF3.block (w.heap.size + 1) zu2).trans bu2
      clear hb3 hF3 hB2 hs2 zo2 bo2 zu2 bu2 co0 co1
      have cu0 := Joins.cell_of_block bu3 0
      have cu1 := Joins.cell_of_block bu3 1
      go_wp2_with fail
      refine (P3.out _).mono ?_
      rintro e w4 ⟨he, hb4⟩
      subst he
      have hs4 := hb4.size
      have hF4 : Below w3.heap.size w3 w4 := hb4
      have hB4 := below_then hB3 hF4
      have zo4 : w.heap.size < w4.heap.size := by omega
      have bo4 := (hF4.block (w.heap.size) zo3).trans bo3
      have zu4 : w.heap.size + 1 < w4.heap.size := by omega
      have bu4 := (hF4.block (w.heap.size + 1) zu3).trans bu3
      clear hb4 hF4 hB3 hs3 zo3 bo3 zu3 bu3 cu0 cu1
      have cu0 := Joins.cell_of_block bu4 0
      have cu1 := Joins.cell_of_block bu4 1
      go_wp2_with fail
      refine (P4.out _).mono ?_
      rintro e w5 ⟨he, hb5⟩
      subst he
      have hs5 := hb5.size
      have hF5 : Below w4.heap.size w4 w5 := hb5
      have hB5 := below_then hB4 hF5
      have zo5 : w.heap.size < w5.heap.size := by omega
      have bo5 := (hF5.block (w.heap.size) zo4).trans bo4
      have zu5 : w.heap.size + 1 < w5.heap.size := by omega
      have bu5 := (hF5.block (w.heap.size + 1) zu4).trans bu4
      clear hb5 hF5 hB4 hs4 zo4 bo4 zu4 bu4 cu0 cu1
      go_wp2_with fail
      go_ret
      exact ⟨rfl, hB5⟩
end Go.Proofs.Ytihgkeokhfmccaa
