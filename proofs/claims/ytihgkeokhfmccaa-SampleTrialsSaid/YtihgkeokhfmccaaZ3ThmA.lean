/- Plans: with one more bad barrow, a greater Accept, and a second sample of none. -/
import Derived.Test.YtihgkeokhfmccaaJ12
import Derived.Test.YtihgkeokhfmccaaZ3MathF
namespace Go.Proofs.Ytihgkeokhfmccaa
open Go Go.RowKit

set_option maxHeartbeats 3200000 in
set_option maxRecDepth 100000 in
theorem SampleTrials_w (S : Sam) (n m : Int) (p : Tr) (w : World) : Calls Try.prog 18 #[.int .i64 n, .int .i64 m, trV p] w fun e w' => e = .returned (.bool true) ∧ Below w.heap.size w w' := by
  have eqRt := Try.eqRt
  have eqSp := Try.eqSp
  have eqTr := Try.eqTr
  have eqBt := Try.eqBt
  have p1 := fun w => S.Pass n m p w
  by_cases hE : (passR n m p).2 = 0
  · obtain ⟨b1, b2, b3, b4⟩ := pass_in hE
    have r0 := passR_ok hE
    have t1 := atMost_le (n := n) b2.1 b2.2 b3.1 p.accept
    have c1 := chooseI_pos (n := n) (k := p.sample) b3.2
    have c2 := chooseI_le (n := n) p.sample b1.2
    have t2 := atMost_mono (n := n) (m := m) (t := p.sample) (show p.accept ≤ p.accept + 1 by omega)
    have p2 := fun w => S.AtMost n m p.sample p.accept w
    rw [atMostR_ok b1 b2 b3 b4.1] at p2
    have p3 := fun w => S.Choose n p.sample w
    rw [chooseR_ok (by omega) b1.2 b3.1] at p3
    have p5 := fun w => S.AtMost n m p.sample (p.accept + 1) w
    rw [atMostR_ok b1 b2 b3 (by omega)] at p5
    obtain ⟨g, g1, g2, g3, g4, g5, g6, g7⟩ := ratio_spec t1.1 (show 0 < chooseI n p.sample by omega)
    have k1 : (chooseI n p.sample).tmod (ratioI (atMostI n m p.sample p.accept) (chooseI n p.sample)).den = 0 := by
      rw [Int.tmod_eq_emod_of_nonneg (by omega)]
      exact Int.emod_eq_zero_of_dvd ⟨g, g3⟩
    have k2 : (chooseI n p.sample).tdiv (ratioI (atMostI n m p.sample p.accept) (chooseI n p.sample)).den = g := by
      rw [Int.tdiv_eq_ediv_of_nonneg (by omega)]
      exact Int.ediv_eq_of_eq_mul_right (by omega) g3
    have k3 : g * (ratioI (atMostI n m p.sample p.accept) (chooseI n p.sample)).num = atMostI n m p.sample p.accept := by rw [Int.mul_comm]; exact g2.symm
    have k4 : g ≤ 126410606437752 := by
      have := Int.mul_le_mul_of_nonneg_right (show 1 ≤ (ratioI (atMostI n m p.sample p.accept) (chooseI n p.sample)).den by omega) (show 0 ≤ g by omega)
      omega
    have p6 := fun w => S.PassTwice n m ⟨p.sample, p.accept, p.sample + 1, 0, p.accept⟩ w
    have p4 := fun w => S.AtMost n (m + 1) p.sample p.accept w
    have tw := fun h : n ≤ 36 => twice_same hE h
    rw [r0] at p1 tw
    generalize ratioI (atMostI n m p.sample p.accept) (chooseI n p.sample) = r at *
    have d1 : decide (chooseI n p.sample < 1) = false := decide_eq_false (by omega)
    have d2 : decide (r.den < 1) = false := decide_eq_false (by omega)
    have d3 : decide (atMostI n m p.sample (p.accept + 1) < atMostI n m p.sample p.accept) = false := decide_eq_false (by omega)
    by_cases hm : m < n
    · by_cases hb : n > 36
      · have d4 : decide (m < n) = true := decide_eq_true hm
        have t3 := atMost_bad (n := n) (m := m) (t := p.sample) (k := p.accept) b2.1 hm b3.1
        have t4 := atMost_le (n := n) (m := m + 1) (t := p.sample) (by omega) (by omega) b3.1 p.accept
        rw [atMostR_ok b1 ⟨by omega, by omega⟩ b3 b4.1] at p4
        generalize atMostI n (m + 1) p.sample p.accept = a1 at *
        have d5 : decide (a1 > atMostI n m p.sample p.accept) = false := decide_eq_false (by omega)
        have d6 : decide (n > 36) = true := decide_eq_true hb
        generalize atMostI n m p.sample p.accept = a at *
        generalize atMostI n m p.sample (p.accept + 1) = a2 at *
        generalize chooseI n p.sample = c at *
        have P1 := Lib.hid p1
        have P2 := Lib.hid p2
        have P3 := Lib.hid p3
        have P4 := Lib.hid p4
        have P5 := Lib.hid p5
        have P6 := Lib.hid p6
        clear p1 p2 p3 p4 p5 p6 tw r0 hE hm hb g2 g3
        unfold trV
        go_enter Try.func18, Try.ntmps18
        go_wp2_with fail
        refine (head_c S _).mono ?_
        rintro e w1 ⟨he, hb1⟩
        subst he
        have hs1 := hb1.size
        simp only [World.size_alloc] at hs1
        have hF1 : Below w.heap.size w w1 := (below_then (below_alloc _ _) hb1)
        have hB1 := hF1
        have zp1 : w.heap.size < w1.heap.size := by omega
        have bp1 : w1.heap[w.heap.size]? = some (.cells #[.int .i64 p.sample, .int .i64 p.accept] 73) := (hb1.block (w.heap.size) (by simp)).trans (alloc_at w (.cells #[.int .i64 p.sample, .int .i64 p.accept] 73) (by first | rfl | simp))
        clear hb1 hF1
        have cp0 := Joins.cell_of_block bp1 0
        have cp1 := Joins.cell_of_block bp1 1
        go_wp2_with fail
        refine (P1.out _).mono ?_
        rintro e w2 ⟨he, hb2⟩
        unfold rtV at he
        subst he
        have hs2 := hb2.size
        have hF2 : Below w1.heap.size w1 w2 := hb2
        have hB2 := below_then hB1 hF2
        have zp2 : w.heap.size < w2.heap.size := by omega
        have bp2 := (hF2.block (w.heap.size) zp1).trans bp1
        clear hb2 hF2 hB1 hs1 zp1 bp1 cp0 cp1
        have cp0 := Joins.cell_of_block bp2 0
        have cp1 := Joins.cell_of_block bp2 1
        go_wp2_with fail
        refine (P2.out _).mono ?_
        rintro e w3 ⟨he, hb3⟩
        subst he
        have hs3 := hb3.size
        simp only [World.size_alloc] at hs3
        have hF3 : Below w2.heap.size w2 w3 := (below_then (below_alloc _ _) hb3)
        have hB3 := below_then hB2 hF3
        have zp3 : w.heap.size < w3.heap.size := by omega
        have bp3 := (hF3.block (w.heap.size) zp2).trans bp2
        have zx3 : w2.heap.size < w3.heap.size := by omega
        have bx3 : w3.heap[w2.heap.size]? = some (.cells #[.int .i64 r.num, .int .i64 r.den] 30) := (hb3.block (w2.heap.size) (by simp)).trans (alloc_at w2 (.cells #[.int .i64 r.num, .int .i64 r.den] 30) (by first | rfl | simp))
        clear hb3 hF3 hB2 hs2 zp2 bp2 cp0 cp1
        have cp0 := Joins.cell_of_block bp3 0
        have cp1 := Joins.cell_of_block bp3 1
        go_wp2_with fail
        refine (P3.out _).mono ?_
        rintro e w4 ⟨he, hb4⟩
        subst he
        have hs4 := hb4.size
        have hF4 : Below w3.heap.size w3 w4 := hb4
        have hB4 := below_then hB3 hF4
        have zp4 : w.heap.size < w4.heap.size := by omega
        have bp4 := (hF4.block (w.heap.size) zp3).trans bp3
        have zx4 : w2.heap.size < w4.heap.size := by omega
        have bx4 := (hF4.block (w2.heap.size) zx3).trans bx3
        clear hb4 hF4 hB3 hs3 zp3 bp3 zx3 bx3 cp0 cp1
        have cx0 := Joins.cell_of_block bx4 0
        have cx1 := Joins.cell_of_block bx4 1
        go_wp2_with fail
        refine wp_region_grown (by kernel_rfl) (by kernel_rfl) fun hcg => ?_
        repeat (go_big_quiet_step (fail))
        refine wpQuiet_nil ?_
        intro _ hw'
        obtain ⟨g, hw''⟩ := hw'
        subst hw''
        have hb5 := g.b
        clear hcg
        generalize g.val = w5 at *
        clear g
        have hs5 := hb5.size
        have hF5 : Below w4.heap.size w4 w5 := hb5
        have hB5 := below_then hB4 hF5
        have zp5 : w.heap.size < w5.heap.size := by omega
        have bp5 := (hF5.block (w.heap.size) zp4).trans bp4
        have zx5 : w2.heap.size < w5.heap.size := by omega
        have bx5 := (hF5.block (w2.heap.size) zx4).trans bx4
        clear hb5 hF5 hB4 hs4 zp4 bp4 zx4 bx4 cx0 cx1
        have cp0 := Joins.cell_of_block bp5 0
        have cp1 := Joins.cell_of_block bp5 1
        go_wp2_with fail
        refine (P4.out _).mono ?_
        rintro e w6 ⟨he, hb6⟩
        subst he
        have hs6 := hb6.size
        have hF6 : Below w5.heap.size w5 w6 := hb6
        have hB6 := below_then hB5 hF6
        have zp6 : w.heap.size < w6.heap.size := by omega
        have bp6 := (hF6.block (w.heap.size) zp5).trans bp5
        have zx6 : w2.heap.size < w6.heap.size := by omega
        have bx6 := (hF6.block (w2.heap.size) zx5).trans bx5
        clear hb6 hF6 hB5 hs5 zp5 bp5 zx5 bx5 cp0 cp1
        have cp0 := Joins.cell_of_block bp6 0
        have cp1 := Joins.cell_of_block bp6 1
        go_wp2_with fail
        refine (P5.out _).mono ?_
        rintro e w7 ⟨he, hb7⟩
        subst he
        have hs7 := hb7.size
        have hF7 : Below w6.heap.size w6 w7 := hb7
        have hB7 := below_then hB6 hF7
        have zp7 : w.heap.size < w7.heap.size := by omega
        have bp7 := (hF7.block (w.heap.size) zp6).trans bp6
        have zx7 : w2.heap.size < w7.heap.size := by omega
        have bx7 := (hF7.block (w2.heap.size) zx6).trans bx6
        clear hb7 hF7 hB6 hs6 zp6 bp6 zx6 bx6 cp0 cp1
        go_wp2_with fail
        go_ret
        exact ⟨rfl, hB7⟩
      · have d4 : decide (m < n) = true := decide_eq_true hm
        have t3 := atMost_bad (n := n) (m := m) (t := p.sample) (k := p.accept) b2.1 hm b3.1
        have t4 := atMost_le (n := n) (m := m + 1) (t := p.sample) (by omega) (by omega) b3.1 p.accept
        rw [atMostR_ok b1 ⟨by omega, by omega⟩ b3 b4.1] at p4
        generalize atMostI n (m + 1) p.sample p.accept = a1 at *
        have d5 : decide (a1 > atMostI n m p.sample p.accept) = false := decide_eq_false (by omega)
        have d6 : decide (n > 36) = false := decide_eq_false hb
        rw [tw (by omega)] at p6
        generalize atMostI n m p.sample p.accept = a at *
        generalize atMostI n m p.sample (p.accept + 1) = a2 at *
        generalize chooseI n p.sample = c at *
        have P1 := Lib.hid p1
        have P2 := Lib.hid p2
        have P3 := Lib.hid p3
        have P4 := Lib.hid p4
        have P5 := Lib.hid p5
        have P6 := Lib.hid p6
        clear p1 p2 p3 p4 p5 p6 tw r0 hE hm hb g2 g3
        unfold trV
        go_enter Try.func18, Try.ntmps18
        go_wp2_with fail
        refine (head_c S _).mono ?_
        rintro e w1 ⟨he, hb1⟩
        subst he
        have hs1 := hb1.size
        simp only [World.size_alloc] at hs1
        have hF1 : Below w.heap.size w w1 := (below_then (below_alloc _ _) hb1)
        have hB1 := hF1
        have zp1 : w.heap.size < w1.heap.size := by omega
        have bp1 : w1.heap[w.heap.size]? = some (.cells #[.int .i64 p.sample, .int .i64 p.accept] 73) := (hb1.block (w.heap.size) (by simp)).trans (alloc_at w (.cells #[.int .i64 p.sample, .int .i64 p.accept] 73) (by first | rfl | simp))
        clear hb1 hF1
        have cp0 := Joins.cell_of_block bp1 0
        have cp1 := Joins.cell_of_block bp1 1
        go_wp2_with fail
        refine (P1.out _).mono ?_
        rintro e w2 ⟨he, hb2⟩
        unfold rtV at he
        subst he
        have hs2 := hb2.size
        have hF2 : Below w1.heap.size w1 w2 := hb2
        have hB2 := below_then hB1 hF2
        have zp2 : w.heap.size < w2.heap.size := by omega
        have bp2 := (hF2.block (w.heap.size) zp1).trans bp1
        clear hb2 hF2 hB1 hs1 zp1 bp1 cp0 cp1
        have cp0 := Joins.cell_of_block bp2 0
        have cp1 := Joins.cell_of_block bp2 1
        go_wp2_with fail
        refine (P2.out _).mono ?_
        rintro e w3 ⟨he, hb3⟩
        subst he
        have hs3 := hb3.size
        simp only [World.size_alloc] at hs3
        have hF3 : Below w2.heap.size w2 w3 := (below_then (below_alloc _ _) hb3)
        have hB3 := below_then hB2 hF3
        have zp3 : w.heap.size < w3.heap.size := by omega
        have bp3 := (hF3.block (w.heap.size) zp2).trans bp2
        have zx3 : w2.heap.size < w3.heap.size := by omega
        have bx3 : w3.heap[w2.heap.size]? = some (.cells #[.int .i64 r.num, .int .i64 r.den] 30) := (hb3.block (w2.heap.size) (by simp)).trans (alloc_at w2 (.cells #[.int .i64 r.num, .int .i64 r.den] 30) (by first | rfl | simp))
        clear hb3 hF3 hB2 hs2 zp2 bp2 cp0 cp1
        have cp0 := Joins.cell_of_block bp3 0
        have cp1 := Joins.cell_of_block bp3 1
        go_wp2_with fail
        refine (P3.out _).mono ?_
        rintro e w4 ⟨he, hb4⟩
        subst he
        have hs4 := hb4.size
        have hF4 : Below w3.heap.size w3 w4 := hb4
        have hB4 := below_then hB3 hF4
        have zp4 : w.heap.size < w4.heap.size := by omega
        have bp4 := (hF4.block (w.heap.size) zp3).trans bp3
        have zx4 : w2.heap.size < w4.heap.size := by omega
        have bx4 := (hF4.block (w2.heap.size) zx3).trans bx3
        clear hb4 hF4 hB3 hs3 zp3 bp3 zx3 bx3 cp0 cp1
        have cx0 := Joins.cell_of_block bx4 0
        have cx1 := Joins.cell_of_block bx4 1
        go_wp2_with fail
        refine wp_region_grown (by kernel_rfl) (by kernel_rfl) fun hcg => ?_
        repeat (go_big_quiet_step (fail))
        refine wpQuiet_nil ?_
        intro _ hw'
        obtain ⟨g, hw''⟩ := hw'
        subst hw''
        have hb5 := g.b
        clear hcg
        generalize g.val = w5 at *
        clear g
        have hs5 := hb5.size
        have hF5 : Below w4.heap.size w4 w5 := hb5
        have hB5 := below_then hB4 hF5
        have zp5 : w.heap.size < w5.heap.size := by omega
        have bp5 := (hF5.block (w.heap.size) zp4).trans bp4
        have zx5 : w2.heap.size < w5.heap.size := by omega
        have bx5 := (hF5.block (w2.heap.size) zx4).trans bx4
        clear hb5 hF5 hB4 hs4 zp4 bp4 zx4 bx4 cx0 cx1
        have cp0 := Joins.cell_of_block bp5 0
        have cp1 := Joins.cell_of_block bp5 1
        go_wp2_with fail
        refine (P4.out _).mono ?_
        rintro e w6 ⟨he, hb6⟩
        subst he
        have hs6 := hb6.size
        have hF6 : Below w5.heap.size w5 w6 := hb6
        have hB6 := below_then hB5 hF6
        have zp6 : w.heap.size < w6.heap.size := by omega
        have bp6 := (hF6.block (w.heap.size) zp5).trans bp5
        have zx6 : w2.heap.size < w6.heap.size := by omega
        have bx6 := (hF6.block (w2.heap.size) zx5).trans bx5
        clear hb6 hF6 hB5 hs5 zp5 bp5 zx5 bx5 cp0 cp1
        have cp0 := Joins.cell_of_block bp6 0
        have cp1 := Joins.cell_of_block bp6 1
        go_wp2_with fail
        refine (P5.out _).mono ?_
        rintro e w7 ⟨he, hb7⟩
        subst he
        have hs7 := hb7.size
        have hF7 : Below w6.heap.size w6 w7 := hb7
        have hB7 := below_then hB6 hF7
        have zp7 : w.heap.size < w7.heap.size := by omega
        have bp7 := (hF7.block (w.heap.size) zp6).trans bp6
        have zx7 : w2.heap.size < w7.heap.size := by omega
        have bx7 := (hF7.block (w2.heap.size) zx6).trans bx6
        clear hb7 hF7 hB6 hs6 zp6 bp6 zx6 bx6 cp0 cp1
        have cp0 := Joins.cell_of_block bp7 0
        have cp1 := Joins.cell_of_block bp7 1
        go_wp2_with fail
        refine (P6.out _).mono ?_
        rintro e w8 ⟨he, hb8⟩
        unfold rtV at he
        subst he
        have hs8 := hb8.size
        have hF8 : Below w7.heap.size w7 w8 := hb8
        have hB8 := below_then hB7 hF8
        have zp8 : w.heap.size < w8.heap.size := by omega
        have bp8 := (hF8.block (w.heap.size) zp7).trans bp7
        have zx8 : w2.heap.size < w8.heap.size := by omega
        have bx8 := (hF8.block (w2.heap.size) zx7).trans bx7
        clear hb8 hF8 hB7 hs7 zp7 bp7 zx7 bx7 cp0 cp1
        have cx0 := Joins.cell_of_block bx8 0
        have cx1 := Joins.cell_of_block bx8 1
        go_wp2_with fail
        go_ret
        exact ⟨rfl, below_then hB8 (below_then (below_alloc _ _) (Below.refl _ _))⟩
    · by_cases hb : n > 36
      · have d4 : decide (m < n) = false := decide_eq_false hm
        have d6 : decide (n > 36) = true := decide_eq_true hb
        generalize atMostI n m p.sample p.accept = a at *
        generalize atMostI n m p.sample (p.accept + 1) = a2 at *
        generalize chooseI n p.sample = c at *
        have P1 := Lib.hid p1
        have P2 := Lib.hid p2
        have P3 := Lib.hid p3
        have P4 := Lib.hid p4
        have P5 := Lib.hid p5
        have P6 := Lib.hid p6
        clear p1 p2 p3 p4 p5 p6 tw r0 hE hm hb g2 g3
        unfold trV
        go_enter Try.func18, Try.ntmps18
        go_wp2_with fail
        refine (head_c S _).mono ?_
        rintro e w1 ⟨he, hb1⟩
        subst he
        have hs1 := hb1.size
        simp only [World.size_alloc] at hs1
        have hF1 : Below w.heap.size w w1 := (below_then (below_alloc _ _) hb1)
        have hB1 := hF1
        have zp1 : w.heap.size < w1.heap.size := by omega
        have bp1 : w1.heap[w.heap.size]? = some (.cells #[.int .i64 p.sample, .int .i64 p.accept] 73) := (hb1.block (w.heap.size) (by simp)).trans (alloc_at w (.cells #[.int .i64 p.sample, .int .i64 p.accept] 73) (by first | rfl | simp))
        clear hb1 hF1
        have cp0 := Joins.cell_of_block bp1 0
        have cp1 := Joins.cell_of_block bp1 1
        go_wp2_with fail
        refine (P1.out _).mono ?_
        rintro e w2 ⟨he, hb2⟩
        unfold rtV at he
        subst he
        have hs2 := hb2.size
        have hF2 : Below w1.heap.size w1 w2 := hb2
        have hB2 := below_then hB1 hF2
        have zp2 : w.heap.size < w2.heap.size := by omega
        have bp2 := (hF2.block (w.heap.size) zp1).trans bp1
        clear hb2 hF2 hB1 hs1 zp1 bp1 cp0 cp1
        have cp0 := Joins.cell_of_block bp2 0
        have cp1 := Joins.cell_of_block bp2 1
        go_wp2_with fail
        refine (P2.out _).mono ?_
        rintro e w3 ⟨he, hb3⟩
        subst he
        have hs3 := hb3.size
        simp only [World.size_alloc] at hs3
        have hF3 : Below w2.heap.size w2 w3 := (below_then (below_alloc _ _) hb3)
        have hB3 := below_then hB2 hF3
        have zp3 : w.heap.size < w3.heap.size := by omega
        have bp3 := (hF3.block (w.heap.size) zp2).trans bp2
        have zx3 : w2.heap.size < w3.heap.size := by omega
        have bx3 : w3.heap[w2.heap.size]? = some (.cells #[.int .i64 r.num, .int .i64 r.den] 30) := (hb3.block (w2.heap.size) (by simp)).trans (alloc_at w2 (.cells #[.int .i64 r.num, .int .i64 r.den] 30) (by first | rfl | simp))
        clear hb3 hF3 hB2 hs2 zp2 bp2 cp0 cp1
        have cp0 := Joins.cell_of_block bp3 0
        have cp1 := Joins.cell_of_block bp3 1
        go_wp2_with fail
        refine (P3.out _).mono ?_
        rintro e w4 ⟨he, hb4⟩
        subst he
        have hs4 := hb4.size
        have hF4 : Below w3.heap.size w3 w4 := hb4
        have hB4 := below_then hB3 hF4
        have zp4 : w.heap.size < w4.heap.size := by omega
        have bp4 := (hF4.block (w.heap.size) zp3).trans bp3
        have zx4 : w2.heap.size < w4.heap.size := by omega
        have bx4 := (hF4.block (w2.heap.size) zx3).trans bx3
        clear hb4 hF4 hB3 hs3 zp3 bp3 zx3 bx3 cp0 cp1
        have cx0 := Joins.cell_of_block bx4 0
        have cx1 := Joins.cell_of_block bx4 1
        go_wp2_with fail
        refine wp_region_grown (by kernel_rfl) (by kernel_rfl) fun hcg => ?_
        repeat (go_big_quiet_step (fail))
        refine wpQuiet_nil ?_
        intro _ hw'
        obtain ⟨g, hw''⟩ := hw'
        subst hw''
        have hb5 := g.b
        clear hcg
        generalize g.val = w5 at *
        clear g
        have hs5 := hb5.size
        have hF5 : Below w4.heap.size w4 w5 := hb5
        have hB5 := below_then hB4 hF5
        have zp5 : w.heap.size < w5.heap.size := by omega
        have bp5 := (hF5.block (w.heap.size) zp4).trans bp4
        have zx5 : w2.heap.size < w5.heap.size := by omega
        have bx5 := (hF5.block (w2.heap.size) zx4).trans bx4
        clear hb5 hF5 hB4 hs4 zp4 bp4 zx4 bx4 cx0 cx1
        have cp0 := Joins.cell_of_block bp5 0
        have cp1 := Joins.cell_of_block bp5 1
        go_wp2_with fail
        refine (P5.out _).mono ?_
        rintro e w6 ⟨he, hb6⟩
        subst he
        have hs6 := hb6.size
        have hF6 : Below w5.heap.size w5 w6 := hb6
        have hB6 := below_then hB5 hF6
        have zp6 : w.heap.size < w6.heap.size := by omega
        have bp6 := (hF6.block (w.heap.size) zp5).trans bp5
        have zx6 : w2.heap.size < w6.heap.size := by omega
        have bx6 := (hF6.block (w2.heap.size) zx5).trans bx5
        clear hb6 hF6 hB5 hs5 zp5 bp5 zx5 bx5 cp0 cp1
        go_wp2_with fail
        go_ret
        exact ⟨rfl, hB6⟩
      · have d4 : decide (m < n) = false := decide_eq_false hm
        have d6 : decide (n > 36) = false := decide_eq_false hb
        rw [tw (by omega)] at p6
        generalize atMostI n m p.sample p.accept = a at *
        generalize atMostI n m p.sample (p.accept + 1) = a2 at *
        generalize chooseI n p.sample = c at *
        have P1 := Lib.hid p1
        have P2 := Lib.hid p2
        have P3 := Lib.hid p3
        have P4 := Lib.hid p4
        have P5 := Lib.hid p5
        have P6 := Lib.hid p6
        clear p1 p2 p3 p4 p5 p6 tw r0 hE hm hb g2 g3
        unfold trV
        go_enter Try.func18, Try.ntmps18
        go_wp2_with fail
        refine (head_c S _).mono ?_
        rintro e w1 ⟨he, hb1⟩
        subst he
        have hs1 := hb1.size
        simp only [World.size_alloc] at hs1
        have hF1 : Below w.heap.size w w1 := (below_then (below_alloc _ _) hb1)
        have hB1 := hF1
        have zp1 : w.heap.size < w1.heap.size := by omega
        have bp1 : w1.heap[w.heap.size]? = some (.cells #[.int .i64 p.sample, .int .i64 p.accept] 73) := (hb1.block (w.heap.size) (by simp)).trans (alloc_at w (.cells #[.int .i64 p.sample, .int .i64 p.accept] 73) (by first | rfl | simp))
        clear hb1 hF1
        have cp0 := Joins.cell_of_block bp1 0
        have cp1 := Joins.cell_of_block bp1 1
        go_wp2_with fail
        refine (P1.out _).mono ?_
        rintro e w2 ⟨he, hb2⟩
        unfold rtV at he
        subst he
        have hs2 := hb2.size
        have hF2 : Below w1.heap.size w1 w2 := hb2
        have hB2 := below_then hB1 hF2
        have zp2 : w.heap.size < w2.heap.size := by omega
        have bp2 := (hF2.block (w.heap.size) zp1).trans bp1
        clear hb2 hF2 hB1 hs1 zp1 bp1 cp0 cp1
        have cp0 := Joins.cell_of_block bp2 0
        have cp1 := Joins.cell_of_block bp2 1
        go_wp2_with fail
        refine (P2.out _).mono ?_
        rintro e w3 ⟨he, hb3⟩
        subst he
        have hs3 := hb3.size
        simp only [World.size_alloc] at hs3
        have hF3 : Below w2.heap.size w2 w3 := (below_then (below_alloc _ _) hb3)
        have hB3 := below_then hB2 hF3
        have zp3 : w.heap.size < w3.heap.size := by omega
        have bp3 := (hF3.block (w.heap.size) zp2).trans bp2
        have zx3 : w2.heap.size < w3.heap.size := by omega
        have bx3 : w3.heap[w2.heap.size]? = some (.cells #[.int .i64 r.num, .int .i64 r.den] 30) := (hb3.block (w2.heap.size) (by simp)).trans (alloc_at w2 (.cells #[.int .i64 r.num, .int .i64 r.den] 30) (by first | rfl | simp))
        clear hb3 hF3 hB2 hs2 zp2 bp2 cp0 cp1
        have cp0 := Joins.cell_of_block bp3 0
        have cp1 := Joins.cell_of_block bp3 1
        go_wp2_with fail
        refine (P3.out _).mono ?_
        rintro e w4 ⟨he, hb4⟩
        subst he
        have hs4 := hb4.size
        have hF4 : Below w3.heap.size w3 w4 := hb4
        have hB4 := below_then hB3 hF4
        have zp4 : w.heap.size < w4.heap.size := by omega
        have bp4 := (hF4.block (w.heap.size) zp3).trans bp3
        have zx4 : w2.heap.size < w4.heap.size := by omega
        have bx4 := (hF4.block (w2.heap.size) zx3).trans bx3
        clear hb4 hF4 hB3 hs3 zp3 bp3 zx3 bx3 cp0 cp1
        have cx0 := Joins.cell_of_block bx4 0
        have cx1 := Joins.cell_of_block bx4 1
        go_wp2_with fail
        refine wp_region_grown (by kernel_rfl) (by kernel_rfl) fun hcg => ?_
        repeat (go_big_quiet_step (fail))
        refine wpQuiet_nil ?_
        intro _ hw'
        obtain ⟨g, hw''⟩ := hw'
        subst hw''
        have hb5 := g.b
        clear hcg
        generalize g.val = w5 at *
        clear g
        have hs5 := hb5.size
        have hF5 : Below w4.heap.size w4 w5 := hb5
        have hB5 := below_then hB4 hF5
        have zp5 : w.heap.size < w5.heap.size := by omega
        have bp5 := (hF5.block (w.heap.size) zp4).trans bp4
        have zx5 : w2.heap.size < w5.heap.size := by omega
        have bx5 := (hF5.block (w2.heap.size) zx4).trans bx4
        clear hb5 hF5 hB4 hs4 zp4 bp4 zx4 bx4 cx0 cx1
        have cp0 := Joins.cell_of_block bp5 0
        have cp1 := Joins.cell_of_block bp5 1
        go_wp2_with fail
        refine (P5.out _).mono ?_
        rintro e w6 ⟨he, hb6⟩
        subst he
        have hs6 := hb6.size
        have hF6 : Below w5.heap.size w5 w6 := hb6
        have hB6 := below_then hB5 hF6
        have zp6 : w.heap.size < w6.heap.size := by omega
        have bp6 := (hF6.block (w.heap.size) zp5).trans bp5
        have zx6 : w2.heap.size < w6.heap.size := by omega
        have bx6 := (hF6.block (w2.heap.size) zx5).trans bx5
        clear hb6 hF6 hB5 hs5 zp5 bp5 zx5 bx5 cp0 cp1
        have cp0 := Joins.cell_of_block bp6 0
        have cp1 := Joins.cell_of_block bp6 1
        go_wp2_with fail
        refine (P6.out _).mono ?_
        rintro e w7 ⟨he, hb7⟩
        unfold rtV at he
        subst he
        have hs7 := hb7.size
        have hF7 : Below w6.heap.size w6 w7 := hb7
        have hB7 := below_then hB6 hF7
        have zp7 : w.heap.size < w7.heap.size := by omega
        have bp7 := (hF7.block (w.heap.size) zp6).trans bp6
        have zx7 : w2.heap.size < w7.heap.size := by omega
        have bx7 := (hF7.block (w2.heap.size) zx6).trans bx6
        clear hb7 hF7 hB6 hs6 zp6 bp6 zx6 bx6 cp0 cp1
        have cx0 := Joins.cell_of_block bx7 0
        have cx1 := Joins.cell_of_block bx7 1
        go_wp2_with fail
        go_ret
        exact ⟨rfl, below_then hB7 (below_then (below_alloc _ _) (Below.refl _ _))⟩
  · have d1 : ((passR n m p).2 != 0) = true := by simpa using hE
    have P1 := Lib.hid p1
    clear p1 hE
    generalize passR n m p = X at *
    unfold trV
    go_enter Try.func18, Try.ntmps18
    go_wp2_with fail
    refine (head_c S _).mono ?_
    rintro e w1 ⟨he, hb1⟩
    subst he
    have hs1 := hb1.size
    simp only [World.size_alloc] at hs1
    have hF1 : Below w.heap.size w w1 := (below_then (below_alloc _ _) hb1)
    have hB1 := hF1
    have zp1 : w.heap.size < w1.heap.size := by omega
    have bp1 : w1.heap[w.heap.size]? = some (.cells #[.int .i64 p.sample, .int .i64 p.accept] 73) := (hb1.block (w.heap.size) (by simp)).trans (alloc_at w (.cells #[.int .i64 p.sample, .int .i64 p.accept] 73) (by first | rfl | simp))
    clear hb1 hF1
    have cp0 := Joins.cell_of_block bp1 0
    have cp1 := Joins.cell_of_block bp1 1
    go_wp2_with fail
    refine (P1.out _).mono ?_
    rintro e w2 ⟨he, hb2⟩
    unfold rtV at he
    subst he
    have hs2 := hb2.size
    have hF2 : Below w1.heap.size w1 w2 := hb2
    have hB2 := below_then hB1 hF2
    have zp2 : w.heap.size < w2.heap.size := by omega
    have bp2 := (hF2.block (w.heap.size) zp1).trans bp1
    clear hb2 hF2 hB1 hs1 zp1 bp1 cp0 cp1
    go_wp2_with fail
    go_ret
    exact ⟨rfl, below_then hB2 (below_then (below_alloc _ _) (Below.refl _ _))⟩
end Go.Proofs.Ytihgkeokhfmccaa
