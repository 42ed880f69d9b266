/- Beliefs: weights at the ends and outside of them, and what is believed of two spans next to each other. -/
import Derived.Test.YtihgkeokhfmccaaJ12
import Derived.Test.YtihgkeokhfmccaaZ3MathF
namespace Go.Proofs.Ytihgkeokhfmccaa
open Go Go.RowKit

set_option maxHeartbeats 1600000 in
set_option maxRecDepth 100000 in
theorem more_yes (a b c d : Int) (w : World) (ha : 0 ≤ a ∧ a ≤ 2147483648) (hb : 1 ≤ b ∧ b ≤ 1073741824) (hc : 0 ≤ c ∧ c ≤ 2147483648) (hd : 1 ≤ d ∧ d ≤ 1073741824) :
    Calls Try.prog 70 #[.agg #[.int .i64 a, .int .i64 b], .agg #[.int .i64 c, .int .i64 d]] w fun e w' => e = .returned (.tuple #[.int .i64 (a * d + c * b), .int .i64 (b * d), .bool true]) ∧ Below w.heap.size w w' := by
  have d1 : decide (b < 1) = false := decide_eq_false (by omega)
  have d2 : decide (d < 1) = false := decide_eq_false (by omega)
  have d3 : decide (b > 1073741824) = false := decide_eq_false (by omega)
  have d4 : decide (d > 1073741824) = false := decide_eq_false (by omega)
  have d5 : decide (a > 2147483648) = false := decide_eq_false (by omega)
  have d6 : decide (c > 2147483648) = false := decide_eq_false (by omega)
  have x1 : 0 ≤ a * d ∧ a * d ≤ 2147483648 * 1073741824 := ⟨Int.mul_nonneg ha.1 (by omega), Int.mul_le_mul ha.2 hd.2 (by omega) (by omega)⟩
  have x2 : 0 ≤ c * b ∧ c * b ≤ 2147483648 * 1073741824 := ⟨Int.mul_nonneg hc.1 (by omega), Int.mul_le_mul hc.2 hb.2 (by omega) (by omega)⟩
  have x3 : 0 ≤ b * d ∧ b * d ≤ 1073741824 * 1073741824 := ⟨Int.mul_nonneg (by omega) (by omega), Int.mul_le_mul hb.2 hd.2 (by omega) (by omega)⟩
  obtain ⟨x11, x12⟩ := x1
  obtain ⟨x21, x22⟩ := x2
  obtain ⟨x31, x32⟩ := x3
  go_enter Try.func70, Try.ntmps70
  go_wp2_with fail
  obtain ⟨w1, hW⟩ : ∃ w1, w1 = ((w.alloc (.cells #[.int .i64 (Rt.mk a b).num, .int .i64 (Rt.mk a b).den] 30)).alloc (.cells #[.int .i64 (Rt.mk c d).num, .int .i64 (Rt.mk c d).den] 30)) := ⟨_, rfl⟩
  rw [← hW]
  have hF1 : Below w.heap.size w w1 := by rw [hW]; exact (below_then (below_alloc _ _) (below_then (below_alloc _ _) (Below.refl _ _)))
  have hs1 : w1.heap.size = w.heap.size + 2 := by rw [hW]; simp
  have hB1 := hF1
  have zx1 : w.heap.size < w1.heap.size := by omega
  have bx1 : w1.heap[w.heap.size]? = some (.cells #[.int .i64 (Rt.mk a b).num, .int .i64 (Rt.mk a b).den] 30) := by rw [hW]; exact ((Below.heap_alloc _ _ _ (by simp <;> omega)).trans (alloc_at w (.cells #[.int .i64 (Rt.mk a b).num, .int .i64 (Rt.mk a b).den] 30) (by first | rfl | simp)))
  have zy1 : w.heap.size + 1 < w1.heap.size := by omega
  have by1 : w1.heap[w.heap.size + 1]? = some (.cells #[.int .i64 (Rt.mk c d).num, .int .i64 (Rt.mk c d).den] 30) := by rw [hW]; exact (alloc_at (w.alloc (.cells #[.int .i64 (Rt.mk a b).num, .int .i64 (Rt.mk a b).den] 30)) (.cells #[.int .i64 (Rt.mk c d).num, .int .i64 (Rt.mk c d).den] 30) (by first | rfl | simp))
  replace hs1 : w.heap.size ≤ w1.heap.size := by omega
  clear hW hF1
  have cx0 := Joins.cell_of_block bx1 0
  have cx1 := Joins.cell_of_block bx1 1
  have cy0 := Joins.cell_of_block by1 0
  have cy1 := Joins.cell_of_block by1 1
  go_wp2_with fail
  refine wp_region_grown (by kernel_rfl) (by kernel_rfl) fun hcg => ?_
  repeat (go_big_quiet_step (fail))
  refine wpQuiet_nil ?_
  intro _ hw'
  obtain ⟨g, hw''⟩ := hw'
  subst hw''
  have hb2 := g.b
  clear hcg
  generalize g.val = w2 at *
  clear g
  have hs2 := hb2.size
  have hF2 : Below w1.heap.size w1 w2 := hb2
  have hB2 := below_then hB1 hF2
  have zx2 : w.heap.size < w2.heap.size := by omega
  have bx2 := (hF2.block (w.heap.size) zx1).trans bx1
  have zy2 : w.heap.size + 1 < w2.heap.size := by omega
  have by2 := (hF2.block (w.heap.size + 1) zy1).trans by1
  clear hb2 hF2 hB1 hs1 zx1 bx1 zy1 by1 cx0 cx1 cy0 cy1
  go_wp2_with fail
  refine bodyPost_ret (v := .tuple #[.int .i64 (a * d + c * b), .int .i64 (b * d), .bool true]) ?_ rfl ⟨rfl, hB2⟩
  simp [results, Try.results70, go_sem]
set_option maxHeartbeats 1600000 in
set_option maxRecDepth 100000 in
theorem more_no (a b c d : Int) (w : World) (hb : 1 ≤ b) (hd : 1 ≤ d) (h : ¬ (b ≤ 1073741824 ∧ d ≤ 1073741824 ∧ a ≤ 2147483648 ∧ c ≤ 2147483648)) :
    Calls Try.prog 70 #[.agg #[.int .i64 a, .int .i64 b], .agg #[.int .i64 c, .int .i64 d]] w fun e w' => e = .returned (.tuple #[.int .i64 0, .int .i64 0, .bool false]) ∧ Below w.heap.size w w' := by
  have d1 : decide (b < 1) = false := decide_eq_false (by omega)
  have d2 : decide (d < 1) = false := decide_eq_false (by omega)
  by_cases e3 : b > 1073741824
  · have d3 : decide (b > 1073741824) = true := decide_eq_true e3
    go_enter Try.func70, Try.ntmps70
    go_wp2_with fail
    refine bodyPost_ret (v := .tuple #[.int .i64 0, .int .i64 0, .bool false]) ?_ rfl ⟨rfl, below_then (below_alloc _ _) (below_alloc _ _)⟩
    simp [results, Try.results70, go_sem]
  · have d3 : decide (b > 1073741824) = false := decide_eq_false e3
    by_cases e4 : d > 1073741824
    · have d4 : decide (d > 1073741824) = true := decide_eq_true e4
      go_enter Try.func70, Try.ntmps70
      go_wp2_with fail
      refine bodyPost_ret (v := .tuple #[.int .i64 0, .int .i64 0, .bool false]) ?_ rfl ⟨rfl, below_then (below_alloc _ _) (below_alloc _ _)⟩
      simp [results, Try.results70, go_sem]
    · have d4 : decide (d > 1073741824) = false := decide_eq_false e4
      by_cases e5 : a > 2147483648
      · have d5 : decide (a > 2147483648) = true := decide_eq_true e5
        go_enter Try.func70, Try.ntmps70
        go_wp2_with fail
        refine bodyPost_ret (v := .tuple #[.int .i64 0, .int .i64 0, .bool false]) ?_ rfl ⟨rfl, below_then (below_alloc _ _) (below_alloc _ _)⟩
        simp [results, Try.results70, go_sem]
      · have d5 : decide (a > 2147483648) = false := decide_eq_false e5
        have d6 : decide (c > 2147483648) = true := decide_eq_true (by omega)
        go_enter Try.func70, Try.ntmps70
        go_wp2_with fail
        refine bodyPost_ret (v := .tuple #[.int .i64 0, .int .i64 0, .bool false]) ?_ rfl ⟨rfl, below_then (below_alloc _ _) (below_alloc _ _)⟩
        simp [results, Try.results70, go_sem]
set_option maxHeartbeats 3200000 in
set_option maxRecDepth 100000 in
theorem SampleBelieves_w (S : Sam) (b : Bt) (sort at_ lg : Int) (w : World) (ha : 0 ≤ at_ ∧ at_ ≤ 255) (hg : 0 ≤ lg ∧ lg ≤ 255) : Calls Try.prog 14 #[btV b, .int .i64 sort, .int .u8 at_, .int .u8 lg] w fun e w' => e = .returned (.bool true) ∧ Below w.heap.size w w' := by
  have eqRt := Try.eqRt
  have eqSp := Try.eqSp
  have eqTr := Try.eqTr
  have eqBt := Try.eqBt
  have neRt := Try.neRt
  have neBt := Try.neBt
  have eqK3 := Try.eqK3
  have p1 := fun w => S.Weights b sort w
  have p2 := fun w => S.Ends b sort w
  by_cases hk : kindI b sort = 0
  · have hc := (kind_ok hk).1
    have nn := right_n (check_ok hc).1
    have tt := total_pos hc sort
    obtain ⟨p, q, eE, pq, qn, ⟨xp, hxp, xp1⟩, ⟨xq, hxq, xq1⟩, hz⟩ := ends_weights hc sort
    rw [hk, if_pos rfl] at p1
    rw [endsR_ok hk, eE] at p2
    have p3 := fun w => S.Believed b sort ⟨0, b.n⟩ w
    rw [believed_ok hk (by simp only; omega), span_all (by omega), ratio_one (by omega)] at p3
    have wn := weights_nonneg b sort
    have eL : ((weightsL b sort).length : Int) = b.n + 1 := by rw [weights_len]; omega
    have LA := fun k hkk => allQ_le (l := weightsL b sort) wn (j := k) hkk
    have aE := allQ_end (weightsL b sort)
    obtain ⟨lo, hlo⟩ : ∃ lo, at_ % ((weightsL b sort).length : Int) = lo := ⟨_, rfl⟩
    have hlo2 : at_.tmod ((weightsL b sort).length : Int) = lo := by rw [Int.tmod_eq_emod_of_nonneg ha.1]; exact hlo
    have lo1 : 0 ≤ lo ∧ lo < (weightsL b sort).length := by
      rw [← hlo]
      exact ⟨Int.emod_nonneg _ (by omega), Int.emod_lt_of_pos _ (by omega)⟩
    obtain ⟨md, hmd⟩ : ∃ md, lg % (((weightsL b sort).length : Int) - lo) = md := ⟨_, rfl⟩
    have hmd2 : lg.tmod (((weightsL b sort).length : Int) - lo) = md := by rw [Int.tmod_eq_emod_of_nonneg hg.1]; exact hmd
    have md1 : 0 ≤ md ∧ md < (weightsL b sort).length - lo := by
      rw [← hmd]
      exact ⟨Int.emod_nonneg _ (by omega), Int.emod_lt_of_pos _ (by omega)⟩
    have p4 := fun w => S.Believed b sort ⟨lo, lo + md⟩ w
    rw [believed_ok hk (by simp only; omega)] at p4
    have p5 := fun w => S.Believed b sort ⟨lo + md + 1, lo + md + 1⟩ w
    rw [believed_ok hk (by simp only; omega)] at p5
    have p6 := fun w => S.Believed b sort ⟨lo, lo + md + 1⟩ w
    rw [believed_ok hk (by simp only; omega), span_two _ (by omega)] at p6
    have sA := span_nonneg wn ⟨lo, lo + md⟩
    have sB := span_nonneg wn ⟨lo + md + 1, lo + md + 1⟩
    generalize spanI (weightsL b sort) ⟨lo, lo + md⟩ = A at *
    generalize spanI (weightsL b sort) ⟨lo + md + 1, lo + md + 1⟩ = B at *
    generalize hT : totalI (weightsL b sort) = T at *
    generalize weightsL b sort = L at *
    have sm := span_more (T := T) (by omega) sA.1 sB.1
    have ra := ratio_parts sA.1 (show 0 < T by omega)
    have rb := ratio_parts sB.1 (show 0 < T by omega)
    have rc := ratio_parts (show 0 ≤ A + B by omega) (show 0 < T by omega)
    generalize ratioI A T = x at *
    generalize ratioI B T = y at *
    generalize ratioI (A + B) T = z at *
    obtain ⟨ra1, ra2, ra3, ra4, -⟩ := ra
    obtain ⟨rb1, rb2, rb3, rb4, -⟩ := rb
    obtain ⟨rc1, rc2, rc3, rc4, -⟩ := rc
    obtain ⟨nn1, nn2, -⟩ := nn
    obtain ⟨tt1, tt2⟩ := tt
    obtain ⟨lo11, lo12⟩ := lo1
    obtain ⟨md11, md12⟩ := md1
    obtain ⟨ha1, ha2⟩ := ha
    obtain ⟨hg1, hg2⟩ := hg
    have LX := Lib.hid (And.intro wn (And.intro LA aE))
    have HZ := Lib.hid hz
    have XP := Lib.hid hxp
    have XQ := Lib.hid hxq
    have SM := Lib.hid sm
    have P1 := Lib.hid p1
    have P2 := Lib.hid p2
    have P3 := Lib.hid p3
    have P4 := Lib.hid p4
    have P5 := Lib.hid p5
    have P6 := Lib.hid p6
    have pl : p < L.length := by omega
    have ql : q < L.length := by omega
    have e1 : ((L.length : Int) != b.n + 1) = false := by simp [eL]
    have e2 : decide ((p : Int) < 0) = false := decide_eq_false (by omega)
    have e3 : decide ((p : Int) > (q : Int)) = false := decide_eq_false (by omega)
    have e4 : decide ((q : Int) ≥ (L.length : Int)) = false := decide_eq_false (by omega)
    have e5 : decide (xp < 1) = false := decide_eq_false (by omega)
    have e6 : decide (xq < 1) = false := decide_eq_false (by omega)
    have e7 : decide (T ≥ 1) = true := decide_eq_true (by omega)
    have EL := Lib.hid eL
    have l0 : 0 < (L.length : Int) := by omega
    clear eL p1 p2 p3 p4 p5 p6 wn LA aE hz hxp hxq sm hk hc hT eE sA sB
    unfold btV
    go_enter Try.func14, Try.ntmps14
    go_wp2_with fail
    refine (head_c S _).mono ?_
    rintro e w1 ⟨he, hb1⟩
    subst he
    have hs1 := hb1.size
    simp only [World.size_alloc] at hs1
    have hF1 : Below w.heap.size w w1 := (below_then (below_alloc _ _) hb1)
    have hB1 := hF1
    have zb1 : w.heap.size < w1.heap.size := by omega
    have bb1 : w1.heap[w.heap.size]? = some (.cells #[.int .i64 b.n, .int .i64 b.s.a, .int .i64 b.s.b, .int .i64 b.s.c, .int .i64 b.k0.lo, .int .i64 b.k0.hi, .int .i64 b.k1.lo, .int .i64 b.k1.hi, .int .i64 b.k2.lo, .int .i64 b.k2.hi] 38) := (hb1.block (w.heap.size) (by simp)).trans (alloc_at w (.cells #[.int .i64 b.n, .int .i64 b.s.a, .int .i64 b.s.b, .int .i64 b.s.c, .int .i64 b.k0.lo, .int .i64 b.k0.hi, .int .i64 b.k1.lo, .int .i64 b.k1.hi, .int .i64 b.k2.lo, .int .i64 b.k2.hi] 38) (by first | rfl | simp))
    clear hb1 hF1
    have cb0 := Joins.cell_of_block bb1 0
    have cb1 := Joins.cell_of_block bb1 1
    have cb2 := Joins.cell_of_block bb1 2
    have cb3 := Joins.cell_of_block bb1 3
    have cb4 := Joins.cell_of_block bb1 4
    have cb5 := Joins.cell_of_block bb1 5
    have cb6 := Joins.cell_of_block bb1 6
    have cb7 := Joins.cell_of_block bb1 7
    have cb8 := Joins.cell_of_block bb1 8
    have cb9 := Joins.cell_of_block bb1 9
    go_wp2_with fail
    refine (P1.out _).mono ?_
    rintro e w2 ⟨hlu, he, hl2, hb2⟩
    obtain ⟨hlA, hlC, rfl⟩ := hl2.form
    subst he
    have hs2 := hb2.size
    have hF2 : Below w1.heap.size w1 w2 := hb2
    have hB2 := below_then hB1 hF2
    have zb2 : w.heap.size < w2.heap.size := by omega
    have bb2 := (hF2.block (w.heap.size) zb1).trans bb1
    clear hb2 hF2 hB1 hs1 zb1 bb1 cb0 cb1 cb2 cb3 cb4 cb5 cb6 cb7 cb8 cb9
    have cb0 := Joins.cell_of_block bb2 0
    have cb1 := Joins.cell_of_block bb2 1
    have cb2 := Joins.cell_of_block bb2 2
    have cb3 := Joins.cell_of_block bb2 3
    have cb4 := Joins.cell_of_block bb2 4
    have cb5 := Joins.cell_of_block bb2 5
    have cb6 := Joins.cell_of_block bb2 6
    have cb7 := Joins.cell_of_block bb2 7
    have cb8 := Joins.cell_of_block bb2 8
    have cb9 := Joins.cell_of_block bb2 9
    go_wp2_with fail
    refine (P2.out _).mono ?_
    rintro e w3 ⟨he, hb3⟩
    unfold spV at he
    subst he
    have hs3 := hb3.size
    have hF3 : Below w2.heap.size w2 w3 := hb3
    have hB3 := below_then hB2 hF3
    have zb3 : w.heap.size < w3.heap.size := by omega
    have bb3 := (hF3.block (w.heap.size) zb2).trans bb2
    have hl3 := hl2.later hF3
    clear hb3 hF3 hB2 hs2 zb2 bb2 hl2 cb0 cb1 cb2 cb3 cb4 cb5 cb6 cb7 cb8 cb9
    have cb0 := Joins.cell_of_block bb3 0
    have cb1 := Joins.cell_of_block bb3 1
    have cb2 := Joins.cell_of_block bb3 2
    have cb3 := Joins.cell_of_block bb3 3
    have cb4 := Joins.cell_of_block bb3 4
    have cb5 := Joins.cell_of_block bb3 5
    have cb6 := Joins.cell_of_block bb3 6
    have cb7 := Joins.cell_of_block bb3 7
    have cb8 := Joins.cell_of_block bb3 8
    have cb9 := Joins.cell_of_block bb3 9
    obtain ⟨qA, qcap, qe, q1, q2, q3⟩ := Ints.open_ hl3
    cases qe
    obtain ⟨qb, qoff, qx, qe1, qB, qX, qc⟩ := q3 p pl
    obtain ⟨qb2, qoff2, qx2, qe2, qB2, qX2, qc2⟩ := q3 q ql
    subst qe1
    simp only [Option.some.injEq, Addr.mk.injEq] at qe2
    obtain ⟨rfl, rfl, -⟩ := qe2
    rw [XP.out] at qX
    rw [XQ.out] at qX2
    cases qX
    cases qX2
    go_wp2_with fail
    obtain ⟨w4, hW⟩ : ∃ w4, w4 = (w3.alloc (.cells #[.int .i64 (Sp.mk (p : Int) (q : Int)).lo, .int .i64 (Sp.mk (p : Int) (q : Int)).hi] 35)) := ⟨_, rfl⟩
    rw [← hW]
    have hF4 : Below w3.heap.size w3 w4 := by rw [hW]; exact (below_then (below_alloc _ _) (Below.refl _ _))
    have hs4 : w4.heap.size = w3.heap.size + 1 := by rw [hW]; simp
    have hB4 := below_then hB3 hF4
    have zb4 : w.heap.size < w4.heap.size := by omega
    have bb4 := (hF4.block (w.heap.size) zb3).trans bb3
    have zs4 : w3.heap.size < w4.heap.size := by omega
    have bs4 : w4.heap[w3.heap.size]? = some (.cells #[.int .i64 (Sp.mk (p : Int) (q : Int)).lo, .int .i64 (Sp.mk (p : Int) (q : Int)).hi] 35) := by rw [hW]; exact (alloc_at w3 (.cells #[.int .i64 (Sp.mk (p : Int) (q : Int)).lo, .int .i64 (Sp.mk (p : Int) (q : Int)).hi] 35) (by first | rfl | simp))
    have hl4 := hl3.later hF4
    replace hs4 : w3.heap.size ≤ w4.heap.size := by omega
    clear hW hF4 hB3 hs3 zb3 bb3 hl3 cb0 cb1 cb2 cb3 cb4 cb5 cb6 cb7 cb8 cb9
    have cs0 := Joins.cell_of_block bs4 0
    have cs1 := Joins.cell_of_block bs4 1
    go_wp2_with fail
    go_loopw [14, 15] (fun v i wr => ∃ k : Nat, k ≤ L.length ∧ i = .int .i64 k ∧ v = .int .i64 (allQ L k) ∧ w4 = wr) (fun _ i _ => L.length - (intOf i).toNat)
    case atStart => exact ⟨0, by omega, rfl, rfl, rfl⟩
    case round =>
      obtain ⟨k, hkk, rfl, rfl, rfl⟩ := hrel
      by_cases hkl : k < L.length
      · have dkl : decide ((k : Int) < (L.length : Int)) = true := decide_eq_true (by omega)
        clear qc qc2
        obtain ⟨qA3, qcap3, qe3, q13, q23, q33⟩ := Ints.open_ hl4
        cases qe3
        obtain ⟨qb3, qoff3, x0, qe4, qB3, qX, qc⟩ := q33 k hkl
        cases qe4
        clear q3 q33
        have s1 := allQ_step qX
        have b0 := LX.out.2.1 k (by omega)
        have b1 := LX.out.2.1 (k + 1) (by omega)
        rw [s1] at b1
        have b2 := LX.out.1 x0 (List.mem_of_getElem? qX)
        have HS1 := Lib.hid s1
        clear s1
        obtain ⟨b01, b02⟩ := b0
        obtain ⟨b11, b12⟩ := b1
        generalize allQ L k = ak at *
        have f1 : decide (x0 < 0) = false := decide_eq_false (by omega)
        by_cases hx0 : x0 > 0
        · have f2 : decide (x0 > 0) = true := decide_eq_true hx0
          have f3 : decide ((k : Int) < (p : Int)) = false := decide_eq_false (fun h => by have := HZ.out k x0 qX (.inl (by omega)); omega)
          have f4 : decide ((k : Int) > (q : Int)) = false := decide_eq_false (fun h => by have := HZ.out k x0 qX (.inr (by omega)); omega)
          have f5 : decide (k < p) = false := decide_eq_false (fun h => by have := HZ.out k x0 qX (.inl h); omega)
          have f6 : decide (q < k) = false := decide_eq_false (fun h => by have := HZ.out k x0 qX (.inr h); omega)
          have f7 : ¬ k < p := of_decide_eq_false f5
          have f8 : ¬ q < k := of_decide_eq_false f6
          go_wp2
          go_roundw
          case rel => exact ⟨k + 1, by omega, by go_num, by rw [HS1.out], by first | rfl | trivial⟩
          case measure => simp [intOf]; omega
        · have f2 : decide (x0 > 0) = false := decide_eq_false hx0
          go_wp2
          go_roundw
          case rel => exact ⟨k + 1, by omega, by go_num, by rw [HS1.out], by first | rfl | trivial⟩
          case measure => simp [intOf]; omega
      · obtain rfl : k = L.length := by omega
        have dkl : decide ((L.length : Int) < (L.length : Int)) = false := decide_eq_false (by omega)
        rw [LX.out.2.2]
        have rb0 := ra1
        clear qc qc2 q3
        by_cases hm : x.den ≤ 1073741824 ∧ y.den ≤ 1073741824 ∧ x.num ≤ 2147483648 ∧ y.num ≤ 2147483648
        · have cb0 := Joins.cell_of_block bb4 0
          have cb1 := Joins.cell_of_block bb4 1
          have cb2 := Joins.cell_of_block bb4 2
          have cb3 := Joins.cell_of_block bb4 3
          have cb4 := Joins.cell_of_block bb4 4
          have cb5 := Joins.cell_of_block bb4 5
          have cb6 := Joins.cell_of_block bb4 6
          have cb7 := Joins.cell_of_block bb4 7
          have cb8 := Joins.cell_of_block bb4 8
          have cb9 := Joins.cell_of_block bb4 9
          go_wp2_with fail
          refine (P3.out _).mono ?_
          rintro e w5 ⟨he, hb5⟩
          subst he
          have hs5 := hb5.size
          have hF5 : Below w4.heap.size w4 w5 := hb5
          have hB5 := below_then hB4 hF5
          have zb5 : w.heap.size < w5.heap.size := by omega
          have bb5 := (hF5.block (w.heap.size) zb4).trans bb4
          have zs5 : w3.heap.size < w5.heap.size := by omega
          have bs5 := (hF5.block (w3.heap.size) zs4).trans bs4
          have hl5 := hl4.later hF5
          clear hb5 hF5 hB4 hs4 zb4 bb4 zs4 bs4 hl4 cs0 cs1 cb0 cb1 cb2 cb3 cb4 cb5 cb6 cb7 cb8 cb9
          have cb0 := Joins.cell_of_block bb5 0
          have cb1 := Joins.cell_of_block bb5 1
          have cb2 := Joins.cell_of_block bb5 2
          have cb3 := Joins.cell_of_block bb5 3
          have cb4 := Joins.cell_of_block bb5 4
          have cb5 := Joins.cell_of_block bb5 5
          have cb6 := Joins.cell_of_block bb5 6
          have cb7 := Joins.cell_of_block bb5 7
          have cb8 := Joins.cell_of_block bb5 8
          have cb9 := Joins.cell_of_block bb5 9
          go_wp2_with fail
          refine (P4.out _).mono ?_
          rintro e w6 ⟨he, hb6⟩
          unfold rtV at he
          subst he
          have hs6 := hb6.size
          simp only [World.size_alloc] at hs6
          have hF6 : Below w5.heap.size w5 w6 := (below_then (below_alloc _ _) hb6)
          have hB6 := below_then hB5 hF6
          have zb6 : w.heap.size < w6.heap.size := by omega
          have bb6 := (hF6.block (w.heap.size) zb5).trans bb5
          have zs6 : w3.heap.size < w6.heap.size := by omega
          have bs6 := (hF6.block (w3.heap.size) zs5).trans bs5
          have zv6 : w5.heap.size < w6.heap.size := by omega
          have bv6 : w6.heap[w5.heap.size]? = some (.cells #[.int .i64 (Rt.mk 1 1).num, .int .i64 (Rt.mk 1 1).den] 30) := (hb6.block (w5.heap.size) (by simp)).trans (alloc_at w5 (.cells #[.int .i64 (Rt.mk 1 1).num, .int .i64 (Rt.mk 1 1).den] 30) (by first | rfl | simp))
          have hl6 := hl5.later hF6
          clear hb6 hF6 hB5 hs5 zb5 bb5 zs5 bs5 hl5 cb0 cb1 cb2 cb3 cb4 cb5 cb6 cb7 cb8 cb9
          have cb0 := Joins.cell_of_block bb6 0
          have cb1 := Joins.cell_of_block bb6 1
          have cb2 := Joins.cell_of_block bb6 2
          have cb3 := Joins.cell_of_block bb6 3
          have cb4 := Joins.cell_of_block bb6 4
          have cb5 := Joins.cell_of_block bb6 5
          have cb6 := Joins.cell_of_block bb6 6
          have cb7 := Joins.cell_of_block bb6 7
          have cb8 := Joins.cell_of_block bb6 8
          have cb9 := Joins.cell_of_block bb6 9
          go_wp2_with fail
          refine (P5.out _).mono ?_
          rintro e w7 ⟨he, hb7⟩
          unfold rtV at he
          subst he
          have hs7 := hb7.size
          simp only [World.size_alloc] at hs7
          have hF7 : Below w6.heap.size w6 w7 := (below_then (below_alloc _ _) hb7)
          have hB7 := below_then hB6 hF7
          have zb7 : w.heap.size < w7.heap.size := by omega
          have bb7 := (hF7.block (w.heap.size) zb6).trans bb6
          have zs7 : w3.heap.size < w7.heap.size := by omega
          have bs7 := (hF7.block (w3.heap.size) zs6).trans bs6
          have zv7 : w5.heap.size < w7.heap.size := by omega
          have bv7 := (hF7.block (w5.heap.size) zv6).trans bv6
          have zx7 : w6.heap.size < w7.heap.size := by omega
          have bx7 : w7.heap[w6.heap.size]? = some (.cells #[.int .i64 x.num, .int .i64 x.den] 30) := (hb7.block (w6.heap.size) (by simp)).trans (alloc_at w6 (.cells #[.int .i64 x.num, .int .i64 x.den] 30) (by first | rfl | simp))
          have hl7 := hl6.later hF7
          clear hb7 hF7 hB6 hs6 zb6 bb6 zs6 bs6 zv6 bv6 hl6 cb0 cb1 cb2 cb3 cb4 cb5 cb6 cb7 cb8 cb9
          have cb0 := Joins.cell_of_block bb7 0
          have cb1 := Joins.cell_of_block bb7 1
          have cb2 := Joins.cell_of_block bb7 2
          have cb3 := Joins.cell_of_block bb7 3
          have cb4 := Joins.cell_of_block bb7 4
          have cb5 := Joins.cell_of_block bb7 5
          have cb6 := Joins.cell_of_block bb7 6
          have cb7 := Joins.cell_of_block bb7 7
          have cb8 := Joins.cell_of_block bb7 8
          have cb9 := Joins.cell_of_block bb7 9
          go_wp2_with fail
          refine (P6.out _).mono ?_
          rintro e w8 ⟨he, hb8⟩
          unfold rtV at he
          subst he
          have hs8 := hb8.size
          simp only [World.size_alloc] at hs8
          have hF8 : Below w7.heap.size w7 w8 := (below_then (below_alloc _ _) hb8)
          have hB8 := below_then hB7 hF8
          have zb8 : w.heap.size < w8.heap.size := by omega
          have bb8 := (hF8.block (w.heap.size) zb7).trans bb7
          have zs8 : w3.heap.size < w8.heap.size := by omega
          have bs8 := (hF8.block (w3.heap.size) zs7).trans bs7
          have zv8 : w5.heap.size < w8.heap.size := by omega
          have bv8 := (hF8.block (w5.heap.size) zv7).trans bv7
          have zx8 : w6.heap.size < w8.heap.size := by omega
          have bx8 := (hF8.block (w6.heap.size) zx7).trans bx7
          have zy8 : w7.heap.size < w8.heap.size := by omega
          have by8 : w8.heap[w7.heap.size]? = some (.cells #[.int .i64 y.num, .int .i64 y.den] 30) := (hb8.block (w7.heap.size) (by simp)).trans (alloc_at w7 (.cells #[.int .i64 y.num, .int .i64 y.den] 30) (by first | rfl | simp))
          have hl8 := hl7.later hF8
          clear hb8 hF8 hB7 hs7 zb7 bb7 zs7 bs7 zv7 bv7 zx7 bx7 hl7 cb0 cb1 cb2 cb3 cb4 cb5 cb6 cb7 cb8 cb9
          have cv0 := Joins.cell_of_block bv8 0
          have cv1 := Joins.cell_of_block bv8 1
          have x1 : 0 ≤ x.num * y.den := Int.mul_nonneg ra3 (by omega)
          have x2 : 0 ≤ y.num * x.den := Int.mul_nonneg rb3 (by omega)
          have x3 : 0 ≤ x.den * y.den := Int.mul_nonneg (by omega) (by omega)
          have cx0 := Joins.cell_of_block bx8 0
          have cx1 := Joins.cell_of_block bx8 1
          have cy0 := Joins.cell_of_block by8 0
          have cy1 := Joins.cell_of_block by8 1
          go_wp2_with fail
          refine (more_yes x.num x.den y.num y.den _ ⟨ra3, hm.2.2.1⟩ ⟨ra1, hm.1⟩ ⟨rb3, hm.2.2.2⟩ ⟨rb1, hm.2.1⟩).mono ?_
          rintro e w9 ⟨he, hb9⟩
          subst he
          have hs9 := hb9.size
          simp only [World.size_alloc] at hs9
          have hF9 : Below w8.heap.size w8 w9 := (below_then (below_alloc _ _) hb9)
          have hB9 := below_then hB8 hF9
          have zb9 : w.heap.size < w9.heap.size := by omega
          have bb9 := (hF9.block (w.heap.size) zb8).trans bb8
          have zs9 : w3.heap.size < w9.heap.size := by omega
          have bs9 := (hF9.block (w3.heap.size) zs8).trans bs8
          have zv9 : w5.heap.size < w9.heap.size := by omega
          have bv9 := (hF9.block (w5.heap.size) zv8).trans bv8
          have zx9 : w6.heap.size < w9.heap.size := by omega
          have bx9 := (hF9.block (w6.heap.size) zx8).trans bx8
          have zy9 : w7.heap.size < w9.heap.size := by omega
          have by9 := (hF9.block (w7.heap.size) zy8).trans by8
          have zz9 : w8.heap.size < w9.heap.size := by omega
          have bz9 : w9.heap[w8.heap.size]? = some (.cells #[.int .i64 z.num, .int .i64 z.den] 30) := (hb9.block (w8.heap.size) (by simp)).trans (alloc_at w8 (.cells #[.int .i64 z.num, .int .i64 z.den] 30) (by first | rfl | simp))
          have hl9 := hl8.later hF9
          clear hb9 hF9 hB8 hs8 zb8 bb8 zs8 bs8 zv8 bv8 zx8 bx8 zy8 by8 hl8 cv0 cv1 cx0 cx1 cy0 cy1
          have cz0 := Joins.cell_of_block bz9 0
          have cz1 := Joins.cell_of_block bz9 1
          by_cases c1 : z.num > 1048576
          · have g1 : decide (z.num > 1048576) = true := decide_eq_true c1
            go_wp2_with fail
            go_ret
            exact ⟨rfl, hB9⟩
          · have g1 : decide (z.num > 1048576) = false := decide_eq_false c1
            by_cases c2 : z.den > 1048576
            · have g2 : decide (z.den > 1048576) = true := decide_eq_true c2
              go_wp2_with fail
              go_ret
              exact ⟨rfl, hB9⟩
            · have g2 : decide (z.den > 1048576) = false := decide_eq_false c2
              by_cases c3 : x.den * y.den > 1099511627776
              · have g3 : decide (x.den * y.den > 1099511627776) = true := decide_eq_true c3
                go_wp2_with fail
                go_ret
                exact ⟨rfl, hB9⟩
              · have g3 : decide (x.den * y.den > 1099511627776) = false := decide_eq_false c3
                by_cases c4 : x.num * y.den + y.num * x.den > 1099511627776
                · have g4 : decide (x.num * y.den + y.num * x.den > 1099511627776) = true := decide_eq_true c4
                  go_wp2_with fail
                  go_ret
                  exact ⟨rfl, hB9⟩
                · have g4 : decide (x.num * y.den + y.num * x.den > 1099511627776) = false := decide_eq_false c4
                  have f5 : 0 ≤ (x.num * y.den + y.num * x.den) * z.den ∧ (x.num * y.den + y.num * x.den) * z.den ≤ 1099511627776 * 1048576 := ⟨Int.mul_nonneg (by omega) (by omega), Int.mul_le_mul (by omega) (by omega) (by omega) (by omega)⟩
                  obtain ⟨f51, f52⟩ := f5
                  have f6 := SM.out
                  rw [f6] at f51 f52
                  have f7 : (x.num * y.den + y.num * x.den) * z.den = z.num * (x.den * y.den) := f6
                  clear f6
                  go_wp2_with fail
                  go_ret
                  exact ⟨rfl, hB9⟩
        · have cb0 := Joins.cell_of_block bb4 0
          have cb1 := Joins.cell_of_block bb4 1
          have cb2 := Joins.cell_of_block bb4 2
          have cb3 := Joins.cell_of_block bb4 3
          have cb4 := Joins.cell_of_block bb4 4
          have cb5 := Joins.cell_of_block bb4 5
          have cb6 := Joins.cell_of_block bb4 6
          have cb7 := Joins.cell_of_block bb4 7
          have cb8 := Joins.cell_of_block bb4 8
          have cb9 := Joins.cell_of_block bb4 9
          go_wp2_with fail
          refine (P3.out _).mono ?_
          rintro e w5 ⟨he, hb5⟩
          subst he
          have hs5 := hb5.size
          have hF5 : Below w4.heap.size w4 w5 := hb5
          have hB5 := below_then hB4 hF5
          have zb5 : w.heap.size < w5.heap.size := by omega
          have bb5 := (hF5.block (w.heap.size) zb4).trans bb4
          have zs5 : w3.heap.size < w5.heap.size := by omega
          have bs5 := (hF5.block (w3.heap.size) zs4).trans bs4
          have hl5 := hl4.later hF5
          clear hb5 hF5 hB4 hs4 zb4 bb4 zs4 bs4 hl4 cs0 cs1 cb0 cb1 cb2 cb3 cb4 cb5 cb6 cb7 cb8 cb9
          have cb0 := Joins.cell_of_block bb5 0
          have cb1 := Joins.cell_of_block bb5 1
          have cb2 := Joins.cell_of_block bb5 2
          have cb3 := Joins.cell_of_block bb5 3
          have cb4 := Joins.cell_of_block bb5 4
          have cb5 := Joins.cell_of_block bb5 5
          have cb6 := Joins.cell_of_block bb5 6
          have cb7 := Joins.cell_of_block bb5 7
          have cb8 := Joins.cell_of_block bb5 8
          have cb9 := Joins.cell_of_block bb5 9
          go_wp2_with fail
          refine (P4.out _).mono ?_
          rintro e w6 ⟨he, hb6⟩
          unfold rtV at he
          subst he
          have hs6 := hb6.size
          simp only [World.size_alloc] at hs6
          have hF6 : Below w5.heap.size w5 w6 := (below_then (below_alloc _ _) hb6)
          have hB6 := below_then hB5 hF6
          have zb6 : w.heap.size < w6.heap.size := by omega
          have bb6 := (hF6.block (w.heap.size) zb5).trans bb5
          have zs6 : w3.heap.size < w6.heap.size := by omega
          have bs6 := (hF6.block (w3.heap.size) zs5).trans bs5
          have zv6 : w5.heap.size < w6.heap.size := by omega
          have bv6 : w6.heap[w5.heap.size]? = some (.cells #[.int .i64 (Rt.mk 1 1).num, .int .i64 (Rt.mk 1 1).den] 30) := (hb6.block (w5.heap.size) (by simp)).trans (alloc_at w5 (.cells #[.int .i64 (Rt.mk 1 1).num, .int .i64 (Rt.mk 1 1).den] 30) (by first | rfl | simp))
          have hl6 := hl5.later hF6
          clear hb6 hF6 hB5 hs5 zb5 bb5 zs5 bs5 hl5 cb0 cb1 cb2 cb3 cb4 cb5 cb6 cb7 cb8 cb9
          have cb0 := Joins.cell_of_block bb6 0
          have cb1 := Joins.cell_of_block bb6 1
          have cb2 := Joins.cell_of_block bb6 2
          have cb3 := Joins.cell_of_block bb6 3
          have cb4 := Joins.cell_of_block bb6 4
          have cb5 := Joins.cell_of_block bb6 5
          have cb6 := Joins.cell_of_block bb6 6
          have cb7 := Joins.cell_of_block bb6 7
          have cb8 := Joins.cell_of_block bb6 8
          have cb9 := Joins.cell_of_block bb6 9
          go_wp2_with fail
          refine (P5.out _).mono ?_
          rintro e w7 ⟨he, hb7⟩
          unfold rtV at he
          subst he
          have hs7 := hb7.size
          simp only [World.size_alloc] at hs7
          have hF7 : Below w6.heap.size w6 w7 := (below_then (below_alloc _ _) hb7)
          have hB7 := below_then hB6 hF7
          have zb7 : w.heap.size < w7.heap.size := by omega
          have bb7 := (hF7.block (w.heap.size) zb6).trans bb6
          have zs7 : w3.heap.size < w7.heap.size := by omega
          have bs7 := (hF7.block (w3.heap.size) zs6).trans bs6
          have zv7 : w5.heap.size < w7.heap.size := by omega
          have bv7 := (hF7.block (w5.heap.size) zv6).trans bv6
          have zx7 : w6.heap.size < w7.heap.size := by omega
          have bx7 : w7.heap[w6.heap.size]? = some (.cells #[.int .i64 x.num, .int .i64 x.den] 30) := (hb7.block (w6.heap.size) (by simp)).trans (alloc_at w6 (.cells #[.int .i64 x.num, .int .i64 x.den] 30) (by first | rfl | simp))
          have hl7 := hl6.later hF7
          clear hb7 hF7 hB6 hs6 zb6 bb6 zs6 bs6 zv6 bv6 hl6 cb0 cb1 cb2 cb3 cb4 cb5 cb6 cb7 cb8 cb9
          have cb0 := Joins.cell_of_block bb7 0
          have cb1 := Joins.cell_of_block bb7 1
          have cb2 := Joins.cell_of_block bb7 2
          have cb3 := Joins.cell_of_block bb7 3
          have cb4 := Joins.cell_of_block bb7 4
          have cb5 := Joins.cell_of_block bb7 5
          have cb6 := Joins.cell_of_block bb7 6
          have cb7 := Joins.cell_of_block bb7 7
          have cb8 := Joins.cell_of_block bb7 8
          have cb9 := Joins.cell_of_block bb7 9
          go_wp2_with fail
          refine (P6.out _).mono ?_
          rintro e w8 ⟨he, hb8⟩
          unfold rtV at he
          subst he
          have hs8 := hb8.size
          simp only [World.size_alloc] at hs8
          have hF8 : Below w7.heap.size w7 w8 := (below_then (below_alloc _ _) hb8)
          have hB8 := below_then hB7 hF8
          have zb8 : w.heap.size < w8.heap.size := by omega
          have bb8 := (hF8.block (w.heap.size) zb7).trans bb7
          have zs8 : w3.heap.size < w8.heap.size := by omega
          have bs8 := (hF8.block (w3.heap.size) zs7).trans bs7
          have zv8 : w5.heap.size < w8.heap.size := by omega
          have bv8 := (hF8.block (w5.heap.size) zv7).trans bv7
          have zx8 : w6.heap.size < w8.heap.size := by omega
          have bx8 := (hF8.block (w6.heap.size) zx7).trans bx7
          have zy8 : w7.heap.size < w8.heap.size := by omega
          have by8 : w8.heap[w7.heap.size]? = some (.cells #[.int .i64 y.num, .int .i64 y.den] 30) := (hb8.block (w7.heap.size) (by simp)).trans (alloc_at w7 (.cells #[.int .i64 y.num, .int .i64 y.den] 30) (by first | rfl | simp))
          have hl8 := hl7.later hF8
          clear hb8 hF8 hB7 hs7 zb7 bb7 zs7 bs7 zv7 bv7 zx7 bx7 hl7 cb0 cb1 cb2 cb3 cb4 cb5 cb6 cb7 cb8 cb9
          have cv0 := Joins.cell_of_block bv8 0
          have cv1 := Joins.cell_of_block bv8 1
          have cx0 := Joins.cell_of_block bx8 0
          have cx1 := Joins.cell_of_block bx8 1
          have cy0 := Joins.cell_of_block by8 0
          have cy1 := Joins.cell_of_block by8 1
          go_wp2_with fail
          refine (more_no x.num x.den y.num y.den _ rb0 rb1 hm).mono ?_
          rintro e w9 ⟨he, hb9⟩
          subst he
          have hs9 := hb9.size
          simp only [World.size_alloc] at hs9
          have hF9 : Below w8.heap.size w8 w9 := (below_then (below_alloc _ _) hb9)
          have hB9 := below_then hB8 hF9
          have zb9 : w.heap.size < w9.heap.size := by omega
          have bb9 := (hF9.block (w.heap.size) zb8).trans bb8
          have zs9 : w3.heap.size < w9.heap.size := by omega
          have bs9 := (hF9.block (w3.heap.size) zs8).trans bs8
          have zv9 : w5.heap.size < w9.heap.size := by omega
          have bv9 := (hF9.block (w5.heap.size) zv8).trans bv8
          have zx9 : w6.heap.size < w9.heap.size := by omega
          have bx9 := (hF9.block (w6.heap.size) zx8).trans bx8
          have zy9 : w7.heap.size < w9.heap.size := by omega
          have by9 := (hF9.block (w7.heap.size) zy8).trans by8
          have zz9 : w8.heap.size < w9.heap.size := by omega
          have bz9 : w9.heap[w8.heap.size]? = some (.cells #[.int .i64 z.num, .int .i64 z.den] 30) := (hb9.block (w8.heap.size) (by simp)).trans (alloc_at w8 (.cells #[.int .i64 z.num, .int .i64 z.den] 30) (by first | rfl | simp))
          have hl9 := hl8.later hF9
          clear hb9 hF9 hB8 hs8 zb8 bb8 zs8 bs8 zv8 bv8 zx8 bx8 zy8 by8 hl8 cv0 cv1 cx0 cx1 cy0 cy1
          have cz0 := Joins.cell_of_block bz9 0
          have cz1 := Joins.cell_of_block bz9 1
          go_wp2_with fail
          go_ret
          exact ⟨rfl, hB9⟩
  · rw [if_neg hk] at p1
    rw [endsR_no hk] at p2
    generalize kindI b sort = K at *
    have d0 : (K != K) = false := by simp
    have d1 : (K != 0) = true := by simpa using hk
    have P1 := Lib.hid p1
    have P2 := Lib.hid p2
    clear p1 p2 hk
    unfold btV
    go_enter Try.func14, Try.ntmps14
    go_wp2_with fail
    refine (head_c S _).mono ?_
    rintro e w1 ⟨he, hb1⟩
    subst he
    have hs1 := hb1.size
    simp only [World.size_alloc] at hs1
    have hF1 : Below w.heap.size w w1 := (below_then (below_alloc _ _) hb1)
    have hB1 := hF1
    have zb1 : w.heap.size < w1.heap.size := by omega
    have bb1 : w1.heap[w.heap.size]? = some (.cells #[.int .i64 b.n, .int .i64 b.s.a, .int .i64 b.s.b, .int .i64 b.s.c, .int .i64 b.k0.lo, .int .i64 b.k0.hi, .int .i64 b.k1.lo, .int .i64 b.k1.hi, .int .i64 b.k2.lo, .int .i64 b.k2.hi] 38) := (hb1.block (w.heap.size) (by simp)).trans (alloc_at w (.cells #[.int .i64 b.n, .int .i64 b.s.a, .int .i64 b.s.b, .int .i64 b.s.c, .int .i64 b.k0.lo, .int .i64 b.k0.hi, .int .i64 b.k1.lo, .int .i64 b.k1.hi, .int .i64 b.k2.lo, .int .i64 b.k2.hi] 38) (by first | rfl | simp))
    clear hb1 hF1
    have cb0 := Joins.cell_of_block bb1 0
    have cb1 := Joins.cell_of_block bb1 1
    have cb2 := Joins.cell_of_block bb1 2
    have cb3 := Joins.cell_of_block bb1 3
    have cb4 := Joins.cell_of_block bb1 4
    have cb5 := Joins.cell_of_block bb1 5
    have cb6 := Joins.cell_of_block bb1 6
    have cb7 := Joins.cell_of_block bb1 7
    have cb8 := Joins.cell_of_block bb1 8
    have cb9 := Joins.cell_of_block bb1 9
    go_wp2_with fail
    refine (P1.out _).mono ?_
    rintro e w2 ⟨hlu, he, hl2, hb2⟩
    obtain ⟨hlA, hlC, rfl⟩ := hl2.form
    subst he
    have hs2 := hb2.size
    have hF2 : Below w1.heap.size w1 w2 := hb2
    have hB2 := below_then hB1 hF2
    have zb2 : w.heap.size < w2.heap.size := by omega
    have bb2 := (hF2.block (w.heap.size) zb1).trans bb1
    clear hb2 hF2 hB1 hs1 zb1 bb1 cb0 cb1 cb2 cb3 cb4 cb5 cb6 cb7 cb8 cb9
    have cb0 := Joins.cell_of_block bb2 0
    have cb1 := Joins.cell_of_block bb2 1
    have cb2 := Joins.cell_of_block bb2 2
    have cb3 := Joins.cell_of_block bb2 3
    have cb4 := Joins.cell_of_block bb2 4
    have cb5 := Joins.cell_of_block bb2 5
    have cb6 := Joins.cell_of_block bb2 6
    have cb7 := Joins.cell_of_block bb2 7
    have cb8 := Joins.cell_of_block bb2 8
    have cb9 := Joins.cell_of_block bb2 9
    go_wp2_with fail
    refine (P2.out _).mono ?_
    rintro e w3 ⟨he, hb3⟩
    unfold spV at he
    subst he
    have hs3 := hb3.size
    have hF3 : Below w2.heap.size w2 w3 := hb3
    have hB3 := below_then hB2 hF3
    have zb3 : w.heap.size < w3.heap.size := by omega
    have bb3 := (hF3.block (w.heap.size) zb2).trans bb2
    have hl3 := hl2.later hF3
    clear hb3 hF3 hB2 hs2 zb2 bb2 hl2 cb0 cb1 cb2 cb3 cb4 cb5 cb6 cb7 cb8 cb9
    go_wp2_with fail
    go_ret
    exact ⟨rfl, below_then hB3 (below_then (below_alloc _ _) (Below.refl _ _))⟩
end Go.Proofs.Ytihgkeokhfmccaa
