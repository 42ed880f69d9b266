/- The smallest plan: it tells the good batch from the bad one, and no plan with a lesser sample does. -/
import Derived.Test.YtihgkeokhfmccaaJ12
import Derived.Test.YtihgkeokhfmccaaZ3MathF
namespace Go.Proofs.Ytihgkeokhfmccaa
open Go Go.RowKit

theorem ratio_cross {A C : Int} {r : Rt} (hA : 0 ≤ A) (hC : 0 < C) : (r.num * (ratioI A C).den ≤ (ratioI A C).num * r.den ↔ C * r.num ≤ A * r.den) ∧ ((ratioI A C).num * r.den ≤ r.num * (ratioI A C).den ↔ A * r.den ≤ C * r.num) := by
  obtain ⟨g, g1, g2, g3, _⟩ := ratio_spec hA hC
  generalize ratioI A C = x at *
  subst g2 g3
  have e1 : x.den * g * r.num = r.num * x.den * g := by grind
  have e2 : x.num * g * r.den = x.num * r.den * g := by grind
  rw [e1, e2]
  exact ⟨⟨fun h => Int.mul_le_mul_of_nonneg_right h (by omega), fun h => Int.le_of_mul_le_mul_right h g1⟩, ⟨fun h => Int.mul_le_mul_of_nonneg_right h (by omega), fun h => Int.le_of_mul_le_mul_right h g1⟩⟩
set_option maxHeartbeats 1600000 in
set_option maxRecDepth 100000 in
theorem cross_c (a b c d : Int) (w : World) (hb : b ≤ 2147483648) (hd : d ≤ 2147483648) (h1 : 0 ≤ a * d) (h2 : a * d ≤ 9223372036854775807) (h3 : 0 ≤ c * b) (h4 : c * b ≤ 9223372036854775807) :
    Calls Try.prog 133 #[.agg #[.int .i64 a, .int .i64 b], .agg #[.int .i64 c, .int .i64 d]] w fun e w' => e = .returned (.bool (decide (a * d ≤ c * b))) ∧ Below w.heap.size w w' := by
  have d1 : decide (b > 2147483648) = false := decide_eq_false (by omega)
  have d2 : decide (d > 2147483648) = false := decide_eq_false (by omega)
  go_enter Try.func133, Try.ntmps133
  go_wp2_with fail
  go_ret
  exact ⟨rfl, below_then (below_alloc _ _) (below_alloc _ _)⟩
set_option maxHeartbeats 3200000 in
set_option maxRecDepth 100000 in
theorem tells_c (S : Sam) (n g m : Int) (a r : Rt) (s k : Int) (w : World) (b1 : 1 ≤ n ∧ n ≤ 20) (b2 : 0 ≤ g ∧ g ≤ n) (b3 : 0 ≤ m ∧ m ≤ n) (b4 : 0 ≤ s ∧ s ≤ n) (b5 : 0 ≤ k ∧ k ≤ s) (la : levelB a = true) (lr : levelB r = true) :
    Calls Try.prog 71 #[.int .i64 n, .int .i64 g, .int .i64 m, .agg #[.int .i64 a.num, .int .i64 a.den], .agg #[.int .i64 r.num, .int .i64 r.den], .agg #[.int .i64 s, .int .i64 k]] w fun e w' => e = .returned (.bool (tellsB n g m a r s.toNat k.toNat)) ∧ Below w.heap.size w w' := by
  have p1 := fun w => S.Pass n g ⟨s, k⟩ w
  have p2 := fun w => S.Pass n m ⟨s, k⟩ w
  rw [passR_of ⟨b1.1, by omega⟩ b2 b4 b5] at p1
  rw [passR_of ⟨b1.1, by omega⟩ b3 b4 b5] at p2
  simp only at p1 p2
  have t1 := atMost_le (n := n) b2.1 b2.2 b4.1 k
  have t2 := atMost_le (n := n) b3.1 b3.2 b4.1 k
  have c1 := chooseI_pos (n := n) (k := s) b4.2
  have c2 : chooseI n s ≤ 184756 := chooseI_20 b1.2 s
  obtain ⟨_, _, _, _, gx1, gx2, gx3, gx4⟩ := ratio_spec t1.1 (show 0 < chooseI n s by omega)
  obtain ⟨_, _, _, _, gy1, gy2, gy3, gy4⟩ := ratio_spec t2.1 (show 0 < chooseI n s by omega)
  have q1 := (ratio_cross (r := a) t1.1 (show 0 < chooseI n s by omega)).1
  have q2 := (ratio_cross (r := r) t2.1 (show 0 < chooseI n s by omega)).2
  have hT : tellsB n g m a r s.toNat k.toNat = (decide (a.num * (ratioI (atMostI n g s k) (chooseI n s)).den ≤ (ratioI (atMostI n g s k) (chooseI n s)).num * a.den) && decide ((ratioI (atMostI n m s k) (chooseI n s)).num * r.den ≤ r.num * (ratioI (atMostI n m s k) (chooseI n s)).den)) := by
    unfold tellsB
    rw [Int.toNat_of_nonneg b4.1, Int.toNat_of_nonneg b5.1]
    congr 1
    · exact decide_eq_decide.2 q1.symm
    · exact decide_eq_decide.2 q2.symm
  clear q1 q2
  generalize ratioI (atMostI n g s k) (chooseI n s) = x at *
  generalize ratioI (atMostI n m s k) (chooseI n s) = y at *
  have va := level_ok la
  have vr := level_ok lr
  have x1 : 0 ≤ a.num * x.den ∧ a.num * x.den ≤ 10000 * 184756 := ⟨Int.mul_nonneg va.2.2.1 (by omega), Int.mul_le_mul (show a.num ≤ 10000 by omega) (show x.den ≤ 184756 by omega) (by omega) (by omega)⟩
  have x2 : 0 ≤ x.num * a.den ∧ x.num * a.den ≤ 184756 * 10000 := ⟨Int.mul_nonneg gx2 (by omega), Int.mul_le_mul (show x.num ≤ 184756 by omega) va.2.1 (by omega) (by omega)⟩
  have x3 : 0 ≤ y.num * r.den ∧ y.num * r.den ≤ 184756 * 10000 := ⟨Int.mul_nonneg gy2 (by omega), Int.mul_le_mul (show y.num ≤ 184756 by omega) vr.2.1 (by omega) (by omega)⟩
  have x4 : 0 ≤ r.num * y.den ∧ r.num * y.den ≤ 10000 * 184756 := ⟨Int.mul_nonneg vr.2.2.1 (by omega), Int.mul_le_mul (show r.num ≤ 10000 by omega) (show y.den ≤ 184756 by omega) (by omega) (by omega)⟩
  obtain ⟨x11, x12⟩ := x1
  obtain ⟨x21, x22⟩ := x2
  obtain ⟨x31, x32⟩ := x3
  obtain ⟨x41, x42⟩ := x4
  obtain ⟨va1, va2, -⟩ := va
  obtain ⟨vr1, vr2, -⟩ := vr
  have P1 := Lib.hid p1
  have P2 := Lib.hid p2
  have HT := Lib.hid hT
  clear p1 p2 hT
  by_cases c1 : a.num * x.den ≤ x.num * a.den
  · by_cases c2 : y.num * r.den ≤ r.num * y.den
    · have d1 : decide (a.num * x.den ≤ x.num * a.den) = true := decide_eq_true c1
      have d2 : decide (y.num * r.den ≤ r.num * y.den) = true := decide_eq_true c2
      go_enter Try.func71, Try.ntmps71
      go_wp2_with fail
      refine (P1.out _).mono ?_
      rintro e w1 ⟨he, hb1⟩
      unfold rtV at he
      subst he
      have hs1 := hb1.size
      simp only [World.size_alloc] at hs1
      have hF1 : Below w.heap.size w w1 := (below_then (below_alloc _ _) (below_then (below_alloc _ _) (below_then (below_alloc _ _) hb1)))
      have hB1 := hF1
      have za1 : w.heap.size < w1.heap.size := by omega
      have ba1 : w1.heap[w.heap.size]? = some (.cells #[.int .i64 a.num, .int .i64 a.den] 30) := (hb1.block (w.heap.size) (by simp <;> omega)).trans ((Below.heap_alloc _ _ _ (by simp <;> omega)).trans ((Below.heap_alloc _ _ _ (by simp)).trans (alloc_at w (.cells #[.int .i64 a.num, .int .i64 a.den] 30) (by first | rfl | simp))))
      have zr1 : w.heap.size + 1 < w1.heap.size := by omega
      have br1 : w1.heap[w.heap.size + 1]? = some (.cells #[.int .i64 r.num, .int .i64 r.den] 30) := (hb1.block (w.heap.size + 1) (by simp <;> omega)).trans ((Below.heap_alloc _ _ _ (by simp)).trans (alloc_at (w.alloc (.cells #[.int .i64 a.num, .int .i64 a.den] 30)) (.cells #[.int .i64 r.num, .int .i64 r.den] 30) (by first | rfl | simp)))
      have zp1 : w.heap.size + 1 + 1 < w1.heap.size := by omega
      have bp1 : w1.heap[w.heap.size + 1 + 1]? = some (.cells #[.int .i64 (Tr.mk s k).sample, .int .i64 (Tr.mk s k).accept] 73) := (hb1.block (w.heap.size + 1 + 1) (by simp)).trans (alloc_at ((w.alloc (.cells #[.int .i64 a.num, .int .i64 a.den] 30)).alloc (.cells #[.int .i64 r.num, .int .i64 r.den] 30)) (.cells #[.int .i64 (Tr.mk s k).sample, .int .i64 (Tr.mk s k).accept] 73) (by first | rfl | simp))
      clear hb1 hF1
      have cp0 := Joins.cell_of_block bp1 0
      have cp1 := Joins.cell_of_block bp1 1
      go_wp2_with fail
      refine (P2.out _).mono ?_
      rintro e w2 ⟨he, hb2⟩
      unfold rtV at he
      subst he
      have hs2 := hb2.size
      simp only [World.size_alloc] at hs2
      have hF2 : Below w1.heap.size w1 w2 := (below_then (below_alloc _ _) hb2)
      have hB2 := below_then hB1 hF2
      have za2 : w.heap.size < w2.heap.size := by omega
      have ba2 := (hF2.block (w.heap.size) za1).trans ba1
      have zr2 : w.heap.size + 1 < w2.heap.size := by omega
      have br2 := (hF2.block (w.heap.size + 1) zr1).trans br1
      have zp2 : w.heap.size + 1 + 1 < w2.heap.size := by omega
      have bp2 := (hF2.block (w.heap.size + 1 + 1) zp1).trans bp1
      have zx2 : w1.heap.size < w2.heap.size := by omega
      have bx2 : w2.heap[w1.heap.size]? = some (.cells #[.int .i64 x.num, .int .i64 x.den] 30) := (hb2.block (w1.heap.size) (by simp)).trans (alloc_at w1 (.cells #[.int .i64 x.num, .int .i64 x.den] 30) (by first | rfl | simp))
      clear hb2 hF2 hB1 hs1 za1 ba1 zr1 br1 zp1 bp1 cp0 cp1
      have ca0 := Joins.cell_of_block ba2 0
      have ca1 := Joins.cell_of_block ba2 1
      have cx0 := Joins.cell_of_block bx2 0
      have cx1 := Joins.cell_of_block bx2 1
      go_wp2_with fail
      refine (cross_c a.num a.den x.num x.den _ (by omega) (by omega) (by omega) (by omega) (by omega) (by omega)).mono ?_
      rintro e w3 ⟨he, hb3⟩
      subst he
      have hs3 := hb3.size
      simp only [World.size_alloc] at hs3
      have hF3 : Below w2.heap.size w2 w3 := (below_then (below_alloc _ _) hb3)
      have hB3 := below_then hB2 hF3
      have za3 : w.heap.size < w3.heap.size := by omega
      have ba3 := (hF3.block (w.heap.size) za2).trans ba2
      have zr3 : w.heap.size + 1 < w3.heap.size := by omega
      have br3 := (hF3.block (w.heap.size + 1) zr2).trans br2
      have zp3 : w.heap.size + 1 + 1 < w3.heap.size := by omega
      have bp3 := (hF3.block (w.heap.size + 1 + 1) zp2).trans bp2
      have zx3 : w1.heap.size < w3.heap.size := by omega
      have bx3 := (hF3.block (w1.heap.size) zx2).trans bx2
      have zy3 : w2.heap.size < w3.heap.size := by omega
      have by3 : w3.heap[w2.heap.size]? = some (.cells #[.int .i64 y.num, .int .i64 y.den] 30) := (hb3.block (w2.heap.size) (by simp)).trans (alloc_at w2 (.cells #[.int .i64 y.num, .int .i64 y.den] 30) (by first | rfl | simp))
      clear hb3 hF3 hB2 hs2 za2 ba2 zr2 br2 zp2 bp2 zx2 bx2 ca0 ca1 cx0 cx1
      have cr0 := Joins.cell_of_block br3 0
      have cr1 := Joins.cell_of_block br3 1
      have cy0 := Joins.cell_of_block by3 0
      have cy1 := Joins.cell_of_block by3 1
      go_wp2_with fail
      refine (cross_c y.num y.den r.num r.den _ (by omega) (by omega) (by omega) (by omega) (by omega) (by omega)).mono ?_
      rintro e w4 ⟨he, hb4⟩
      subst he
      have hs4 := hb4.size
      have hF4 : Below w3.heap.size w3 w4 := hb4
      have hB4 := below_then hB3 hF4
      have za4 : w.heap.size < w4.heap.size := by omega
      have ba4 := (hF4.block (w.heap.size) za3).trans ba3
      have zr4 : w.heap.size + 1 < w4.heap.size := by omega
      have br4 := (hF4.block (w.heap.size + 1) zr3).trans br3
      have zp4 : w.heap.size + 1 + 1 < w4.heap.size := by omega
      have bp4 := (hF4.block (w.heap.size + 1 + 1) zp3).trans bp3
      have zx4 : w1.heap.size < w4.heap.size := by omega
      have bx4 := (hF4.block (w1.heap.size) zx3).trans bx3
      have zy4 : w2.heap.size < w4.heap.size := by omega
      have by4 := (hF4.block (w2.heap.size) zy3).trans by3
      clear hb4 hF4 hB3 hs3 za3 ba3 zr3 br3 zp3 bp3 zx3 bx3 zy3 by3 cr0 cr1 cy0 cy1
      go_wp2_with fail
      go_ret
      exact ⟨by rw [HT.out, d1, d2]; rfl, hB4⟩
    · have d1 : decide (a.num * x.den ≤ x.num * a.den) = true := decide_eq_true c1
      have d2 : decide (y.num * r.den ≤ r.num * y.den) = false := decide_eq_false c2
      go_enter Try.func71, Try.ntmps71
      go_wp2_with fail
      refine (P1.out _).mono ?_
      rintro e w1 ⟨he, hb1⟩
      unfold rtV at he
      subst he
      have hs1 := hb1.size
      simp only [World.size_alloc] at hs1
      have hF1 : Below w.heap.size w w1 := (below_then (below_alloc _ _) (below_then (below_alloc _ _) (below_then (below_alloc _ _) hb1)))
      have hB1 := hF1
      have za1 : w.heap.size < w1.heap.size := by omega
      have ba1 : w1.heap[w.heap.size]? = some (.cells #[.int .i64 a.num, .int .i64 a.den] 30) := (hb1.block (w.heap.size) (by simp <;> omega)).trans ((Below.heap_alloc _ _ _ (by simp <;> omega)).trans ((Below.heap_alloc _ _ _ (by simp)).trans (alloc_at w (.cells #[.int .i64 a.num, .int .i64 a.den] 30) (by first | rfl | simp))))
      have zr1 : w.heap.size + 1 < w1.heap.size := by omega
      have br1 : w1.heap[w.heap.size + 1]? = some (.cells #[.int .i64 r.num, .int .i64 r.den] 30) := (hb1.block (w.heap.size + 1) (by simp <;> omega)).trans ((Below.heap_alloc _ _ _ (by simp)).trans (alloc_at (w.alloc (.cells #[.int .i64 a.num, .int .i64 a.den] 30)) (.cells #[.int .i64 r.num, .int .i64 r.den] 30) (by first | rfl | simp)))
      have zp1 : w.heap.size + 1 + 1 < w1.heap.size := by omega
      have bp1 : w1.heap[w.heap.size + 1 + 1]? = some (.cells #[.int .i64 (Tr.mk s k).sample, .int .i64 (Tr.mk s k).accept] 73) := (hb1.block (w.heap.size + 1 + 1) (by simp)).trans (alloc_at ((w.alloc (.cells #[.int .i64 a.num, .int .i64 a.den] 30)).alloc (.cells #[.int .i64 r.num, .int .i64 r.den] 30)) (.cells #[.int .i64 (Tr.mk s k).sample, .int .i64 (Tr.mk s k).accept] 73) (by first | rfl | simp))
      clear hb1 hF1
      have cp0 := Joins.cell_of_block bp1 0
      have cp1 := Joins.cell_of_block bp1 1
      go_wp2_with fail
      refine (P2.out _).mono ?_
      rintro e w2 ⟨he, hb2⟩
      unfold rtV at he
      subst he
      have hs2 := hb2.size
      simp only [World.size_alloc] at hs2
      have hF2 : Below w1.heap.size w1 w2 := (below_then (below_alloc _ _) hb2)
      have hB2 := below_then hB1 hF2
      have za2 : w.heap.size < w2.heap.size := by omega
      have ba2 := (hF2.block (w.heap.size) za1).trans ba1
      have zr2 : w.heap.size + 1 < w2.heap.size := by omega
      have br2 := (hF2.block (w.heap.size + 1) zr1).trans br1
      have zp2 : w.heap.size + 1 + 1 < w2.heap.size := by omega
      have bp2 := (hF2.block (w.heap.size + 1 + 1) zp1).trans bp1
      have zx2 : w1.heap.size < w2.heap.size := by omega
      have bx2 : w2.heap[w1.heap.size]? = some (.cells #[.int .i64 x.num, .int .i64 x.den] 30) := (hb2.block (w1.heap.size) (by simp)).trans (alloc_at w1 (.cells #[.int .i64 x.num, .int .i64 x.den] 30) (by first | rfl | simp))
      clear hb2 hF2 hB1 hs1 za1 ba1 zr1 br1 zp1 bp1 cp0 cp1
      have ca0 := Joins.cell_of_block ba2 0
      have ca1 := Joins.cell_of_block ba2 1
      have cx0 := Joins.cell_of_block bx2 0
      have cx1 := Joins.cell_of_block bx2 1
      go_wp2_with fail
      refine (cross_c a.num a.den x.num x.den _ (by omega) (by omega) (by omega) (by omega) (by omega) (by omega)).mono ?_
      rintro e w3 ⟨he, hb3⟩
      subst he
      have hs3 := hb3.size
      simp only [World.size_alloc] at hs3
      have hF3 : Below w2.heap.size w2 w3 := (below_then (below_alloc _ _) hb3)
      have hB3 := below_then hB2 hF3
      have za3 : w.heap.size < w3.heap.size := by omega
      have ba3 := (hF3.block (w.heap.size) za2).trans ba2
      have zr3 : w.heap.size + 1 < w3.heap.size := by omega
      have br3 := (hF3.block (w.heap.size + 1) zr2).trans br2
      have zp3 : w.heap.size + 1 + 1 < w3.heap.size := by omega
      have bp3 := (hF3.block (w.heap.size + 1 + 1) zp2).trans bp2
      have zx3 : w1.heap.size < w3.heap.size := by omega
      have bx3 := (hF3.block (w1.heap.size) zx2).trans bx2
      have zy3 : w2.heap.size < w3.heap.size := by omega
      have by3 : w3.heap[w2.heap.size]? = some (.cells #[.int .i64 y.num, .int .i64 y.den] 30) := (hb3.block (w2.heap.size) (by simp)).trans (alloc_at w2 (.cells #[.int .i64 y.num, .int .i64 y.den] 30) (by first | rfl | simp))
      clear hb3 hF3 hB2 hs2 za2 ba2 zr2 br2 zp2 bp2 zx2 bx2 ca0 ca1 cx0 cx1
      have cr0 := Joins.cell_of_block br3 0
      have cr1 := Joins.cell_of_block br3 1
      have cy0 := Joins.cell_of_block by3 0
      have cy1 := Joins.cell_of_block by3 1
      go_wp2_with fail
      refine (cross_c y.num y.den r.num r.den _ (by omega) (by omega) (by omega) (by omega) (by omega) (by omega)).mono ?_
      rintro e w4 ⟨he, hb4⟩
      subst he
      have hs4 := hb4.size
      have hF4 : Below w3.heap.size w3 w4 := hb4
      have hB4 := below_then hB3 hF4
      have za4 : w.heap.size < w4.heap.size := by omega
      have ba4 := (hF4.block (w.heap.size) za3).trans ba3
      have zr4 : w.heap.size + 1 < w4.heap.size := by omega
      have br4 := (hF4.block (w.heap.size + 1) zr3).trans br3
      have zp4 : w.heap.size + 1 + 1 < w4.heap.size := by omega
      have bp4 := (hF4.block (w.heap.size + 1 + 1) zp3).trans bp3
      have zx4 : w1.heap.size < w4.heap.size := by omega
      have bx4 := (hF4.block (w1.heap.size) zx3).trans bx3
      have zy4 : w2.heap.size < w4.heap.size := by omega
      have by4 := (hF4.block (w2.heap.size) zy3).trans by3
      clear hb4 hF4 hB3 hs3 za3 ba3 zr3 br3 zp3 bp3 zx3 bx3 zy3 by3 cr0 cr1 cy0 cy1
      go_wp2_with fail
      go_ret
      exact ⟨by rw [HT.out, d1, d2]; rfl, hB4⟩
  · have d1 : decide (a.num * x.den ≤ x.num * a.den) = false := decide_eq_false c1
    go_enter Try.func71, Try.ntmps71
    go_wp2_with fail
    refine (P1.out _).mono ?_
    rintro e w1 ⟨he, hb1⟩
    unfold rtV at he
    subst he
    have hs1 := hb1.size
    simp only [World.size_alloc] at hs1
    have hF1 : Below w.heap.size w w1 := (below_then (below_alloc _ _) (below_then (below_alloc _ _) (below_then (below_alloc _ _) hb1)))
    have hB1 := hF1
    have za1 : w.heap.size < w1.heap.size := by omega
    have ba1 : w1.heap[w.heap.size]? = some (.cells #[.int .i64 a.num, .int .i64 a.den] 30) := (hb1.block (w.heap.size) (by simp <;> omega)).trans ((Below.heap_alloc _ _ _ (by simp <;> omega)).trans ((Below.heap_alloc _ _ _ (by simp)).trans (alloc_at w (.cells #[.int .i64 a.num, .int .i64 a.den] 30) (by first | rfl | simp))))
    have zr1 : w.heap.size + 1 < w1.heap.size := by omega
    have br1 : w1.heap[w.heap.size + 1]? = some (.cells #[.int .i64 r.num, .int .i64 r.den] 30) := (hb1.block (w.heap.size + 1) (by simp <;> omega)).trans ((Below.heap_alloc _ _ _ (by simp)).trans (alloc_at (w.alloc (.cells #[.int .i64 a.num, .int .i64 a.den] 30)) (.cells #[.int .i64 r.num, .int .i64 r.den] 30) (by first | rfl | simp)))
    have zp1 : w.heap.size + 1 + 1 < w1.heap.size := by omega
    have bp1 : w1.heap[w.heap.size + 1 + 1]? = some (.cells #[.int .i64 (Tr.mk s k).sample, .int .i64 (Tr.mk s k).accept] 73) := (hb1.block (w.heap.size + 1 + 1) (by simp)).trans (alloc_at ((w.alloc (.cells #[.int .i64 a.num, .int .i64 a.den] 30)).alloc (.cells #[.int .i64 r.num, .int .i64 r.den] 30)) (.cells #[.int .i64 (Tr.mk s k).sample, .int .i64 (Tr.mk s k).accept] 73) (by first | rfl | simp))
    clear hb1 hF1
    have cp0 := Joins.cell_of_block bp1 0
    have cp1 := Joins.cell_of_block bp1 1
    go_wp2_with fail
    refine (P2.out _).mono ?_
    rintro e w2 ⟨he, hb2⟩
    unfold rtV at he
    subst he
    have hs2 := hb2.size
    simp only [World.size_alloc] at hs2
    have hF2 : Below w1.heap.size w1 w2 := (below_then (below_alloc _ _) hb2)
    have hB2 := below_then hB1 hF2
    have za2 : w.heap.size < w2.heap.size := by omega
    have ba2 := (hF2.block (w.heap.size) za1).trans ba1
    have zr2 : w.heap.size + 1 < w2.heap.size := by omega
    have br2 := (hF2.block (w.heap.size + 1) zr1).trans br1
    have zp2 : w.heap.size + 1 + 1 < w2.heap.size := by omega
    have bp2 := (hF2.block (w.heap.size + 1 + 1) zp1).trans bp1
    have zx2 : w1.heap.size < w2.heap.size := by omega
    have bx2 : w2.heap[w1.heap.size]? = some (.cells #[.int .i64 x.num, .int .i64 x.den] 30) := (hb2.block (w1.heap.size) (by simp)).trans (alloc_at w1 (.cells #[.int .i64 x.num, .int .i64 x.den] 30) (by first | rfl | simp))
    clear hb2 hF2 hB1 hs1 za1 ba1 zr1 br1 zp1 bp1 cp0 cp1
    have ca0 := Joins.cell_of_block ba2 0
    have ca1 := Joins.cell_of_block ba2 1
    have cx0 := Joins.cell_of_block bx2 0
    have cx1 := Joins.cell_of_block bx2 1
    go_wp2_with fail
    refine (cross_c a.num a.den x.num x.den _ (by omega) (by omega) (by omega) (by omega) (by omega) (by omega)).mono ?_
    rintro e w3 ⟨he, hb3⟩
    subst he
    have hs3 := hb3.size
    simp only [World.size_alloc] at hs3
    have hF3 : Below w2.heap.size w2 w3 := (below_then (below_alloc _ _) hb3)
    have hB3 := below_then hB2 hF3
    have za3 : w.heap.size < w3.heap.size := by omega
    have ba3 := (hF3.block (w.heap.size) za2).trans ba2
    have zr3 : w.heap.size + 1 < w3.heap.size := by omega
    have br3 := (hF3.block (w.heap.size + 1) zr2).trans br2
    have zp3 : w.heap.size + 1 + 1 < w3.heap.size := by omega
    have bp3 := (hF3.block (w.heap.size + 1 + 1) zp2).trans bp2
    have zx3 : w1.heap.size < w3.heap.size := by omega
    have bx3 := (hF3.block (w1.heap.size) zx2).trans bx2
    have zy3 : w2.heap.size < w3.heap.size := by omega
    have by3 : w3.heap[w2.heap.size]? = some (.cells #[.int .i64 y.num, .int .i64 y.den] 30) := (hb3.block (w2.heap.size) (by simp)).trans (alloc_at w2 (.cells #[.int .i64 y.num, .int .i64 y.den] 30) (by first | rfl | simp))
    clear hb3 hF3 hB2 hs2 za2 ba2 zr2 br2 zp2 bp2 zx2 bx2 ca0 ca1 cx0 cx1
    go_wp2_with fail
    go_ret
    exact ⟨by rw [HT.out, d1]; rfl, hB3⟩
set_option maxHeartbeats 3200000 in
set_option maxRecDepth 100000 in
theorem SampleLeast_w (S : Sam) (n g m : Int) (a r : Rt) (w : World) : Calls Try.prog 19 #[.int .i64 n, .int .i64 g, .int .i64 m, rtV a, rtV r] w fun e w' => e = .returned (.bool true) ∧ Below w.heap.size w w' := by
  have eqRt := Try.eqRt
  have eqSp := Try.eqSp
  have eqTr := Try.eqTr
  have eqBt := Try.eqBt
  have neRt := Try.neRt
  have neBt := Try.neBt
  have eqK3 := Try.eqK3
  have p1 := fun w => S.Smallest n g m a r w
  by_cases hn : n > 20
  · have d1 : decide (n > 20) = true := decide_eq_true hn
    clear p1
    unfold rtV
    go_enter Try.func19, Try.ntmps19
    go_wp2_with fail
    refine (head_c S _).mono ?_
    rintro e w1 ⟨he, hb1⟩
    subst he
    have hs1 := hb1.size
    simp only [World.size_alloc] at hs1
    have hF1 : Below w.heap.size w w1 := (below_then (below_alloc _ _) (below_then (below_alloc _ _) hb1))
    have hB1 := hF1
    have za1 : w.heap.size < w1.heap.size := by omega
    have ba1 : w1.heap[w.heap.size]? = some (.cells #[.int .i64 a.num, .int .i64 a.den] 30) := (hb1.block (w.heap.size) (by simp <;> omega)).trans ((Below.heap_alloc _ _ _ (by simp)).trans (alloc_at w (.cells #[.int .i64 a.num, .int .i64 a.den] 30) (by first | rfl | simp)))
    have zr1 : w.heap.size + 1 < w1.heap.size := by omega
    have br1 : w1.heap[w.heap.size + 1]? = some (.cells #[.int .i64 r.num, .int .i64 r.den] 30) := (hb1.block (w.heap.size + 1) (by simp)).trans (alloc_at (w.alloc (.cells #[.int .i64 a.num, .int .i64 a.den] 30)) (.cells #[.int .i64 r.num, .int .i64 r.den] 30) (by first | rfl | simp))
    clear hb1 hF1
    go_wp2_with fail
    go_ret
    exact ⟨rfl, hB1⟩
  · have d1 : decide (n > 20) = false := decide_eq_false hn
    rcases Bool.eq_false_or_eq_true (smallB n g m a r) with hs | hs
    · obtain ⟨b1, b2, b3, b4, la, lr⟩ := small_in hs hn
      cases hx : smallestP n g m a r with
      | none =>
        rw [smallest_none hs hx] at p1
        have P1 := Lib.hid p1
        clear p1
        unfold rtV
        go_enter Try.func19, Try.ntmps19
        go_wp2_with fail
        refine (head_c S _).mono ?_
        rintro e w1 ⟨he, hb1⟩
        subst he
        have hs1 := hb1.size
        simp only [World.size_alloc] at hs1
        have hF1 : Below w.heap.size w w1 := (below_then (below_alloc _ _) (below_then (below_alloc _ _) hb1))
        have hB1 := hF1
        have za1 : w.heap.size < w1.heap.size := by omega
        have ba1 : w1.heap[w.heap.size]? = some (.cells #[.int .i64 a.num, .int .i64 a.den] 30) := (hb1.block (w.heap.size) (by simp <;> omega)).trans ((Below.heap_alloc _ _ _ (by simp)).trans (alloc_at w (.cells #[.int .i64 a.num, .int .i64 a.den] 30) (by first | rfl | simp)))
        have zr1 : w.heap.size + 1 < w1.heap.size := by omega
        have br1 : w1.heap[w.heap.size + 1]? = some (.cells #[.int .i64 r.num, .int .i64 r.den] 30) := (hb1.block (w.heap.size + 1) (by simp)).trans (alloc_at (w.alloc (.cells #[.int .i64 a.num, .int .i64 a.den] 30)) (.cells #[.int .i64 r.num, .int .i64 r.den] 30) (by first | rfl | simp))
        clear hb1 hF1
        have ca0 := Joins.cell_of_block ba1 0
        have ca1 := Joins.cell_of_block ba1 1
        have cr0 := Joins.cell_of_block br1 0
        have cr1 := Joins.cell_of_block br1 1
        go_wp2_with fail
        refine (P1.out _).mono ?_
        rintro e w2 ⟨he, hb2⟩
        unfold trV at he
        subst he
        have hs2 := hb2.size
        have hF2 : Below w1.heap.size w1 w2 := hb2
        have hB2 := below_then hB1 hF2
        have za2 : w.heap.size < w2.heap.size := by omega
        have ba2 := (hF2.block (w.heap.size) za1).trans ba1
        have zr2 : w.heap.size + 1 < w2.heap.size := by omega
        have br2 := (hF2.block (w.heap.size + 1) zr1).trans br1
        clear hb2 hF2 hB1 hs1 za1 ba1 zr1 br1 ca0 ca1 cr0 cr1
        go_wp2_with fail
        go_loopw [15] (fun i wr => ∃ j : Nat, (j : Int) ≤ n + 1 ∧ i = .int .i64 j ∧ Below w2.heap.size w2 wr) (fun i _ => (n + 1).toNat - (intOf i).toNat)
        case atStart => exact ⟨0, by omega, rfl, by first | exact Below.refl _ _ | exact below_alloc _ _⟩
        case round =>
          obtain ⟨j, hj, rfl, hb⟩ := hrel
          by_cases hlt : (j : Int) ≤ n
          · have dlt : decide ((j : Int) ≤ n) = true := decide_eq_true hlt
            obtain ⟨wo, rfl⟩ : ∃ wo : World, wo = wr := ⟨_, rfl⟩
            have dk0 : decide ((0 : Int) ≤ (j : Int)) = true := decide_eq_true (by omega)
            go_wp2_with fail
            go_loopw [16] (fun i wr => ∃ k : Nat, k ≤ j + 1 ∧ i = .int .i64 k ∧ Below w2.heap.size w2 wr) (fun i _ => j + 1 - (intOf i).toNat)
            case atStart => exact ⟨0, by omega, rfl, hb⟩
            case round =>
              clear hb
              obtain ⟨k, hk, rfl, hb⟩ := hrel
              by_cases hkl : k ≤ j
              · have dkl : decide ((k : Int) ≤ (j : Int)) = true := decide_eq_true (by omega)
                have hno := smallest_no hx (s := j) (k := k) (by omega) hkl
                have hshb := hb.size
                have zahb : w.heap.size < wr.heap.size := by omega
                have yahb := (hb.block (w.heap.size) za2).trans ba2
                have ca0 := Joins.cell_of_block yahb 0
                have ca1 := Joins.cell_of_block yahb 1
                have zrhb : w.heap.size + 1 < wr.heap.size := by omega
                have yrhb := (hb.block (w.heap.size + 1) zr2).trans br2
                have cr0 := Joins.cell_of_block yrhb 0
                have cr1 := Joins.cell_of_block yrhb 1
                go_wp2_with fail
                refine (tells_c S n g m a r j k _ b1 b2 b3 (by omega) (by omega) la lr).mono ?_
                rintro e w9 ⟨he, hb9⟩
                rw [Int.toNat_natCast, Int.toNat_natCast, hno] at he
                subst he
                have hB9 := hb.trans (hb9.mono hb.size)
                clear hno hb9
                go_wp2
                go_roundw
                case rel => exact ⟨k + 1, by omega, by go_num, hB9⟩
                case measure => simp [intOf]; omega
              · obtain rfl : k = j + 1 := by omega
                have dkl : decide (((j + 1 : Nat) : Int) ≤ (j : Int)) = false := decide_eq_false (by omega)
                go_wp2
                go_roundw
                case rel => exact ⟨j + 1, by omega, by go_num, hb⟩
                case measure => simp [intOf]; omega
          · have dlt : decide ((j : Int) ≤ n) = false := decide_eq_false hlt
            have hB := below_then hB2 hb
            go_wp2_with fail
            go_ret
            exact ⟨rfl, hB⟩
      | some x =>
        obtain ⟨t1, t2, t3⟩ := smallest_range hx
        have b4x : 0 ≤ (x.1 : Int) ∧ (x.1 : Int) ≤ n := by omega
        have b5x : 0 ≤ (x.2 : Int) ∧ (x.2 : Int) ≤ (x.1 : Int) := by omega
        rw [smallest_some hs hx] at p1
        have P1 := Lib.hid p1
        clear p1
        unfold rtV
        go_enter Try.func19, Try.ntmps19
        go_wp2_with fail
        refine (head_c S _).mono ?_
        rintro e w1 ⟨he, hb1⟩
        subst he
        have hs1 := hb1.size
        simp only [World.size_alloc] at hs1
        have hF1 : Below w.heap.size w w1 := (below_then (below_alloc _ _) (below_then (below_alloc _ _) hb1))
        have hB1 := hF1
        have za1 : w.heap.size < w1.heap.size := by omega
        have ba1 : w1.heap[w.heap.size]? = some (.cells #[.int .i64 a.num, .int .i64 a.den] 30) := (hb1.block (w.heap.size) (by simp <;> omega)).trans ((Below.heap_alloc _ _ _ (by simp)).trans (alloc_at w (.cells #[.int .i64 a.num, .int .i64 a.den] 30) (by first | rfl | simp)))
        have zr1 : w.heap.size + 1 < w1.heap.size := by omega
        have br1 : w1.heap[w.heap.size + 1]? = some (.cells #[.int .i64 r.num, .int .i64 r.den] 30) := (hb1.block (w.heap.size + 1) (by simp)).trans (alloc_at (w.alloc (.cells #[.int .i64 a.num, .int .i64 a.den] 30)) (.cells #[.int .i64 r.num, .int .i64 r.den] 30) (by first | rfl | simp))
        clear hb1 hF1
        have ca0 := Joins.cell_of_block ba1 0
        have ca1 := Joins.cell_of_block ba1 1
        have cr0 := Joins.cell_of_block br1 0
        have cr1 := Joins.cell_of_block br1 1
        go_wp2_with fail
        refine (P1.out _).mono ?_
        rintro e w2 ⟨he, hb2⟩
        unfold trV at he
        subst he
        have hs2 := hb2.size
        have hF2 : Below w1.heap.size w1 w2 := hb2
        have hB2 := below_then hB1 hF2
        have za2 : w.heap.size < w2.heap.size := by omega
        have ba2 := (hF2.block (w.heap.size) za1).trans ba1
        have zr2 : w.heap.size + 1 < w2.heap.size := by omega
        have br2 := (hF2.block (w.heap.size + 1) zr1).trans br1
        clear hb2 hF2 hB1 hs1 za1 ba1 zr1 br1 ca0 ca1 cr0 cr1
        have ca0 := Joins.cell_of_block ba2 0
        have ca1 := Joins.cell_of_block ba2 1
        have cr0 := Joins.cell_of_block br2 0
        have cr1 := Joins.cell_of_block br2 1
        go_wp2_with fail
        refine (tells_c S n g m a r x.1 x.2 _ b1 b2 b3 b4x b5x la lr).mono ?_
        rintro e w3 ⟨he, hb3⟩
        subst he
        have hs3 := hb3.size
        simp only [World.size_alloc] at hs3
        have hF3 : Below w2.heap.size w2 w3 := (below_then (below_alloc _ _) hb3)
        have hB3 := below_then hB2 hF3
        have za3 : w.heap.size < w3.heap.size := by omega
        have ba3 := (hF3.block (w.heap.size) za2).trans ba2
        have zr3 : w.heap.size + 1 < w3.heap.size := by omega
        have br3 := (hF3.block (w.heap.size + 1) zr2).trans br2
        have zp3 : w2.heap.size < w3.heap.size := by omega
        have bp3 : w3.heap[w2.heap.size]? = some (.cells #[.int .i64 (Tr.mk (x.1 : Int) (x.2 : Int)).sample, .int .i64 (Tr.mk (x.1 : Int) (x.2 : Int)).accept] 73) := (hb3.block (w2.heap.size) (by simp)).trans (alloc_at w2 (.cells #[.int .i64 (Tr.mk (x.1 : Int) (x.2 : Int)).sample, .int .i64 (Tr.mk (x.1 : Int) (x.2 : Int)).accept] 73) (by first | rfl | simp))
        clear hb3 hF3 hB2 hs2 za2 ba2 zr2 br2 ca0 ca1 cr0 cr1
        have cp0 := Joins.cell_of_block bp3 0
        have cp1 := Joins.cell_of_block bp3 1
        go_wp2_with fail
        go_loopw [15] (fun i wr => ∃ j : Nat, (j : Int) ≤ ((x.1 : Int) - 1) + 1 ∧ i = .int .i64 j ∧ Below w3.heap.size w3 wr) (fun i _ => (((x.1 : Int) - 1) + 1).toNat - (intOf i).toNat)
        case atStart => exact ⟨0, by omega, rfl, by first | exact Below.refl _ _ | exact below_alloc _ _⟩
        case round =>
          obtain ⟨j, hj, rfl, hb⟩ := hrel
          by_cases hlt : (j : Int) ≤ ((x.1 : Int) - 1)
          · have dlt : decide ((j : Int) ≤ ((x.1 : Int) - 1)) = true := decide_eq_true hlt
            obtain ⟨wo, rfl⟩ : ∃ wo : World, wo = wr := ⟨_, rfl⟩
            have dk0 : decide ((0 : Int) ≤ (j : Int)) = true := decide_eq_true (by omega)
            go_wp2_with fail
            go_loopw [16] (fun i wr => ∃ k : Nat, k ≤ j + 1 ∧ i = .int .i64 k ∧ Below w3.heap.size w3 wr) (fun i _ => j + 1 - (intOf i).toNat)
            case atStart => exact ⟨0, by omega, rfl, hb⟩
            case round =>
              clear hb
              obtain ⟨k, hk, rfl, hb⟩ := hrel
              by_cases hkl : k ≤ j
              · have dkl : decide ((k : Int) ≤ (j : Int)) = true := decide_eq_true (by omega)
                have hno := smallest_first hx (s := j) (k := k) (by omega) hkl
                have hshb := hb.size
                have zahb : w.heap.size < wr.heap.size := by omega
                have yahb := (hb.block (w.heap.size) za3).trans ba3
                have ca0 := Joins.cell_of_block yahb 0
                have ca1 := Joins.cell_of_block yahb 1
                have zrhb : w.heap.size + 1 < wr.heap.size := by omega
                have yrhb := (hb.block (w.heap.size + 1) zr3).trans br3
                have cr0 := Joins.cell_of_block yrhb 0
                have cr1 := Joins.cell_of_block yrhb 1
                go_wp2_with fail
                refine (tells_c S n g m a r j k _ b1 b2 b3 (by omega) (by omega) la lr).mono ?_
                rintro e w9 ⟨he, hb9⟩
                rw [Int.toNat_natCast, Int.toNat_natCast, hno] at he
                subst he
                have hB9 := hb.trans (hb9.mono hb.size)
                clear hno hb9
                go_wp2
                go_roundw
                case rel => exact ⟨k + 1, by omega, by go_num, hB9⟩
                case measure => simp [intOf]; omega
              · obtain rfl : k = j + 1 := by omega
                have dkl : decide (((j + 1 : Nat) : Int) ≤ (j : Int)) = false := decide_eq_false (by omega)
                go_wp2
                go_roundw
                case rel => exact ⟨j + 1, by omega, by go_num, hb⟩
                case measure => simp [intOf]; omega
          · have dlt : decide ((j : Int) ≤ ((x.1 : Int) - 1)) = false := decide_eq_false hlt
            have hB := below_then hB3 hb
            go_wp2_with fail
            go_ret
            exact ⟨rfl, hB⟩
    · rw [show smallestR n g m a r = (⟨0, 0⟩, 1) by unfold smallestR; rw [if_neg (by simp [hs])]] at p1
      have P1 := Lib.hid p1
      clear p1
      unfold rtV
      go_enter Try.func19, Try.ntmps19
      go_wp2_with fail
      refine (head_c S _).mono ?_
      rintro e w1 ⟨he, hb1⟩
      subst he
      have hs1 := hb1.size
      simp only [World.size_alloc] at hs1
      have hF1 : Below w.heap.size w w1 := (below_then (below_alloc _ _) (below_then (below_alloc _ _) hb1))
      have hB1 := hF1
      have za1 : w.heap.size < w1.heap.size := by omega
      have ba1 : w1.heap[w.heap.size]? = some (.cells #[.int .i64 a.num, .int .i64 a.den] 30) := (hb1.block (w.heap.size) (by simp <;> omega)).trans ((Below.heap_alloc _ _ _ (by simp)).trans (alloc_at w (.cells #[.int .i64 a.num, .int .i64 a.den] 30) (by first | rfl | simp)))
      have zr1 : w.heap.size + 1 < w1.heap.size := by omega
      have br1 : w1.heap[w.heap.size + 1]? = some (.cells #[.int .i64 r.num, .int .i64 r.den] 30) := (hb1.block (w.heap.size + 1) (by simp)).trans (alloc_at (w.alloc (.cells #[.int .i64 a.num, .int .i64 a.den] 30)) (.cells #[.int .i64 r.num, .int .i64 r.den] 30) (by first | rfl | simp))
      clear hb1 hF1
      have ca0 := Joins.cell_of_block ba1 0
      have ca1 := Joins.cell_of_block ba1 1
      have cr0 := Joins.cell_of_block br1 0
      have cr1 := Joins.cell_of_block br1 1
      go_wp2_with fail
      refine (P1.out _).mono ?_
      rintro e w2 ⟨he, hb2⟩
      unfold trV at he
      subst he
      have hs2 := hb2.size
      have hF2 : Below w1.heap.size w1 w2 := hb2
      have hB2 := below_then hB1 hF2
      have za2 : w.heap.size < w2.heap.size := by omega
      have ba2 := (hF2.block (w.heap.size) za1).trans ba1
      have zr2 : w.heap.size + 1 < w2.heap.size := by omega
      have br2 := (hF2.block (w.heap.size + 1) zr1).trans br1
      clear hb2 hF2 hB1 hs1 za1 ba1 zr1 br1 ca0 ca1 cr0 cr1
      go_wp2_with fail
      go_ret
      exact ⟨rfl, below_then hB2 (below_then (below_alloc _ _) (Below.refl _ _))⟩
end Go.Proofs.Ytihgkeokhfmccaa
