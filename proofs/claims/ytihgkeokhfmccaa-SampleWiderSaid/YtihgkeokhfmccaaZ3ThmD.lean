/- Shortest: what is believed enough for a greater level has no fewer numbers. -/
import Derived.Test.YtihgkeokhfmccaaJ12
import Derived.Test.YtihgkeokhfmccaaZ3MathF
namespace Go.Proofs.Ytihgkeokhfmccaa
open Go Go.RowKit

set_option maxHeartbeats 3200000 in
set_option maxRecDepth 100000 in
theorem SampleWider_w (S : Sam) (b : Bt) (sort : Int) (one two : Rt) (w : World) : Calls Try.prog 17 #[btV b, .int .i64 sort, rtV one, rtV two] w fun e w' => e = .returned (.bool true) ∧ Below w.heap.size w w' := by
  have eqRt := Try.eqRt
  have eqSp := Try.eqSp
  have eqTr := Try.eqTr
  have eqBt := Try.eqBt
  have neRt := Try.neRt
  have neBt := Try.neBt
  have eqK3 := Try.eqK3
  have p1 := fun w => S.Shortest b sort one w
  have p2 := fun w => S.Shortest b sort two w
  have m1 := short_ask b sort one
  have m2 := short_ask b sort two
  by_cases h1 : askI b sort one = 0
  · by_cases h2 : askI b sort two = 0
    · obtain ⟨lo, hi, e1, a1, a2, a3, a4, a5⟩ := short_spec h1
      obtain ⟨lo2, hi2, e2, c1, c2, c3, c4, c5⟩ := short_spec h2
      have hw := short_wider h1 h2
      have k0 := (ask_ok h1).1
      have hc := (kind_ok k0).1
      have nn := right_n (check_ok hc).1
      have v1 := level_ok (ask_ok h1).2
      have v2 := level_ok (ask_ok h2).2
      have tt := total_pos hc sort
      have E1 : shortestR b sort one = (⟨lo, hi⟩, 0) := by rw [← e1, ← h1, ← m1]
      have E2 : shortestR b sort two = (⟨lo2, hi2⟩, 0) := by rw [← e2, ← h2, ← m2]
      have p3 := fun w => S.CheckShortest b sort one ⟨lo, hi⟩ w
      rw [check_short E1] at p3
      rw [E1] at p1 hw
      rw [E2] at p2 hw
      have p4 := fun w => S.Weights b sort w
      rw [k0, if_pos rfl] at p4
      have hA := fun j hj => allQ_le (l := weightsL b sort) (weights_nonneg b sort) (j := j) hj
      have hI := fun j hj => inQ_le (l := weightsL b sort) (s := ⟨lo, hi⟩) (weights_nonneg b sort) (j := j) hj
      have ea := allQ_end (weightsL b sort)
      have ei := inQ_end (weightsL b sort) ⟨lo, hi⟩
      have el := weights_len b sort
      have eL : ((weightsL b sort).length : Int) = b.n + 1 := by rw [el]; omega
      generalize weightsL b sort = L at *
      generalize hT : totalI L = T at *
      generalize hU : spanI L ⟨lo, hi⟩ = U at *
      have d1 : decide (lo < 0) = false := decide_eq_false (by omega)
      have d2 : decide (lo > hi) = false := decide_eq_false (by omega)
      have d3 : decide (hi > b.n) = false := decide_eq_false (by omega)
      have d4 : decide ((L.length : Int) ≤ hi) = false := decide_eq_false (by omega)
      obtain ⟨v11, v12, v13, v14⟩ := v1
      obtain ⟨v21, v22, v23, v24⟩ := v2
      obtain ⟨nn1, nn2, -⟩ := nn
      obtain ⟨tt1, tt2⟩ := tt
      have HAI := Lib.hid (And.intro hA hI)
      have HE := Lib.hid (And.intro ea ei)
      have HA4 := Lib.hid a4
      have HW := Lib.hid hw
      have P1 := Lib.hid p1
      have P2 := Lib.hid p2
      have P3 := Lib.hid p3
      have P4 := Lib.hid p4
      clear p1 p2 p3 p4 m1 m2 e1 e2 E1 E2 a4 a5 c4 c5 hw hA hI ea ei h1 h2 k0 hc hT hU el
      unfold btV rtV
      go_enter Try.func17, Try.ntmps17
      go_wp2_with fail
      refine (head_c S _).mono ?_
      rintro e w1 ⟨he, hb1⟩
      subst he
      have hs1 := hb1.size
      simp only [World.size_alloc] at hs1
      have hF1 : Below w.heap.size w w1 := (below_then (below_alloc _ _) (below_then (below_alloc _ _) (below_then (below_alloc _ _) hb1)))
      have hB1 := hF1
      have zb1 : w.heap.size < w1.heap.size := by omega
      have bb1 : w1.heap[w.heap.size]? = some (.cells #[.int .i64 b.n, .int .i64 b.s.a, .int .i64 b.s.b, .int .i64 b.s.c, .int .i64 b.k0.lo, .int .i64 b.k0.hi, .int .i64 b.k1.lo, .int .i64 b.k1.hi, .int .i64 b.k2.lo, .int .i64 b.k2.hi] 38) := (hb1.block (w.heap.size) (by simp <;> omega)).trans ((Below.heap_alloc _ _ _ (by simp <;> omega)).trans ((Below.heap_alloc _ _ _ (by simp)).trans (alloc_at w (.cells #[.int .i64 b.n, .int .i64 b.s.a, .int .i64 b.s.b, .int .i64 b.s.c, .int .i64 b.k0.lo, .int .i64 b.k0.hi, .int .i64 b.k1.lo, .int .i64 b.k1.hi, .int .i64 b.k2.lo, .int .i64 b.k2.hi] 38) (by first | rfl | simp))))
      have zo1 : w.heap.size + 1 < w1.heap.size := by omega
      have bo1 : w1.heap[w.heap.size + 1]? = some (.cells #[.int .i64 one.num, .int .i64 one.den] 30) := (hb1.block (w.heap.size + 1) (by simp <;> omega)).trans ((Below.heap_alloc _ _ _ (by simp)).trans (alloc_at (w.alloc (.cells #[.int .i64 b.n, .int .i64 b.s.a, .int .i64 b.s.b, .int .i64 b.s.c, .int .i64 b.k0.lo, .int .i64 b.k0.hi, .int .i64 b.k1.lo, .int .i64 b.k1.hi, .int .i64 b.k2.lo, .int .i64 b.k2.hi] 38)) (.cells #[.int .i64 one.num, .int .i64 one.den] 30) (by first | rfl | simp)))
      have zu1 : w.heap.size + 1 + 1 < w1.heap.size := by omega
      have bu1 : w1.heap[w.heap.size + 1 + 1]? = some (.cells #[.int .i64 two.num, .int .i64 two.den] 30) := (hb1.block (w.heap.size + 1 + 1) (by simp)).trans (alloc_at ((w.alloc (.cells #[.int .i64 b.n, .int .i64 b.s.a, .int .i64 b.s.b, .int .i64 b.s.c, .int .i64 b.k0.lo, .int .i64 b.k0.hi, .int .i64 b.k1.lo, .int .i64 b.k1.hi, .int .i64 b.k2.lo, .int .i64 b.k2.hi] 38)).alloc (.cells #[.int .i64 one.num, .int .i64 one.den] 30)) (.cells #[.int .i64 two.num, .int .i64 two.den] 30) (by first | rfl | simp))
      clear hb1 hF1
      have cb0 := Joins.cell_of_block bb1 0
      have cb1 := Joins.cell_of_block bb1 1
      have cb2 := Joins.cell_of_block bb1 2
      have cb3 := Joins.cell_of_block bb1 3
      have cb4 := Joins.cell_of_block bb1 4
      have cb5 := Joins.cell_of_block bb1 5
      have cb6 := Joins.cell_of_block bb1 6
      have cb7 := Joins.cell_of_block bb1 7
      have cb8 := Joins.cell_of_block bb1 8
      have cb9 := Joins.cell_of_block bb1 9
      have co0 := Joins.cell_of_block bo1 0
      have co1 := Joins.cell_of_block bo1 1
      go_wp2_with fail
      refine (P1.out _).mono ?_
      rintro e w2 ⟨he, hb2⟩
      unfold spV at he
      subst he
      have hs2 := hb2.size
      have hF2 : Below w1.heap.size w1 w2 := hb2
      have hB2 := below_then hB1 hF2
      have zb2 : w.heap.size < w2.heap.size := by omega
      have bb2 := (hF2.block (w.heap.size) zb1).trans bb1
      have zo2 : w.heap.size + 1 < w2.heap.size := by omega
      have bo2 := (hF2.block (w.heap.size + 1) zo1).trans bo1
      have zu2 : w.heap.size + 1 + 1 < w2.heap.size := by omega
      have bu2 := (hF2.block (w.heap.size + 1 + 1) zu1).trans bu1
      clear hb2 hF2 hB1 hs1 zb1 bb1 zo1 bo1 zu1 bu1 cb0 cb1 cb2 cb3 cb4 cb5 cb6 cb7 cb8 cb9 co0 co1
      have cb0 := Joins.cell_of_block bb2 0
      have cb1 := Joins.cell_of_block bb2 1
      have cb2 := Joins.cell_of_block bb2 2
      have cb3 := Joins.cell_of_block bb2 3
      have cb4 := Joins.cell_of_block bb2 4
      have cb5 := Joins.cell_of_block bb2 5
      have cb6 := Joins.cell_of_block bb2 6
      have cb7 := Joins.cell_of_block bb2 7
      have cb8 := Joins.cell_of_block bb2 8
      have cb9 := Joins.cell_of_block bb2 9
      have cu0 := Joins.cell_of_block bu2 0
      have cu1 := Joins.cell_of_block bu2 1
      go_wp2_with fail
      refine (P2.out _).mono ?_
      rintro e w3 ⟨he, hb3⟩
      unfold spV at he
      subst he
      have hs3 := hb3.size
      simp only [World.size_alloc] at hs3
      have hF3 : Below w2.heap.size w2 w3 := (below_then (below_alloc _ _) hb3)
      have hB3 := below_then hB2 hF3
      have zb3 : w.heap.size < w3.heap.size := by omega
      have bb3 := (hF3.block (w.heap.size) zb2).trans bb2
      have zo3 : w.heap.size + 1 < w3.heap.size := by omega
      have bo3 := (hF3.block (w.heap.size + 1) zo2).trans bo2
      have zu3 : w.heap.size + 1 + 1 < w3.heap.size := by omega
      have bu3 := (hF3.block (w.heap.size + 1 + 1) zu2).trans bu2
      have zx3 : w2.heap.size < w3.heap.size := by omega
      have bx3 : w3.heap[w2.heap.size]? = some (.cells #[.int .i64 (Sp.mk lo hi).lo, .int .i64 (Sp.mk lo hi).hi] 35) := (hb3.block (w2.heap.size) (by simp)).trans (alloc_at w2 (.cells #[.int .i64 (Sp.mk lo hi).lo, .int .i64 (Sp.mk lo hi).hi] 35) (by first | rfl | simp))
      clear hb3 hF3 hB2 hs2 zb2 bb2 zo2 bo2 zu2 bu2 cb0 cb1 cb2 cb3 cb4 cb5 cb6 cb7 cb8 cb9 cu0 cu1
      have cb0 := Joins.cell_of_block bb3 0
      have cb1 := Joins.cell_of_block bb3 1
      have cb2 := Joins.cell_of_block bb3 2
      have cb3 := Joins.cell_of_block bb3 3
      have cb4 := Joins.cell_of_block bb3 4
      have cb5 := Joins.cell_of_block bb3 5
      have cb6 := Joins.cell_of_block bb3 6
      have cb7 := Joins.cell_of_block bb3 7
      have cb8 := Joins.cell_of_block bb3 8
      have cb9 := Joins.cell_of_block bb3 9
      have co0 := Joins.cell_of_block bo3 0
      have co1 := Joins.cell_of_block bo3 1
      have cx0 := Joins.cell_of_block bx3 0
      have cx1 := Joins.cell_of_block bx3 1
      go_wp2_with fail
      refine (P3.out _).mono ?_
      rintro e w4 ⟨he, hb4⟩
      subst he
      have hs4 := hb4.size
      simp only [World.size_alloc] at hs4
      have hF4 : Below w3.heap.size w3 w4 := (below_then (below_alloc _ _) hb4)
      have hB4 := below_then hB3 hF4
      have zb4 : w.heap.size < w4.heap.size := by omega
      have bb4 := (hF4.block (w.heap.size) zb3).trans bb3
      have zo4 : w.heap.size + 1 < w4.heap.size := by omega
      have bo4 := (hF4.block (w.heap.size + 1) zo3).trans bo3
      have zu4 : w.heap.size + 1 + 1 < w4.heap.size := by omega
      have bu4 := (hF4.block (w.heap.size + 1 + 1) zu3).trans bu3
      have zx4 : w2.heap.size < w4.heap.size := by omega
      have bx4 := (hF4.block (w2.heap.size) zx3).trans bx3
      have zy4 : w3.heap.size < w4.heap.size := by omega
      have by4 : w4.heap[w3.heap.size]? = some (.cells #[.int .i64 (Sp.mk lo2 hi2).lo, .int .i64 (Sp.mk lo2 hi2).hi] 35) := (hb4.block (w3.heap.size) (by simp)).trans (alloc_at w3 (.cells #[.int .i64 (Sp.mk lo2 hi2).lo, .int .i64 (Sp.mk lo2 hi2).hi] 35) (by first | rfl | simp))
      clear hb4 hF4 hB3 hs3 zb3 bb3 zo3 bo3 zu3 bu3 zx3 bx3 cb0 cb1 cb2 cb3 cb4 cb5 cb6 cb7 cb8 cb9 co0 co1 cx0 cx1
      have cx0 := Joins.cell_of_block bx4 0
      have cx1 := Joins.cell_of_block bx4 1
      have cb0 := Joins.cell_of_block bb4 0
      have cb1 := Joins.cell_of_block bb4 1
      have cb2 := Joins.cell_of_block bb4 2
      have cb3 := Joins.cell_of_block bb4 3
      have cb4 := Joins.cell_of_block bb4 4
      have cb5 := Joins.cell_of_block bb4 5
      have cb6 := Joins.cell_of_block bb4 6
      have cb7 := Joins.cell_of_block bb4 7
      have cb8 := Joins.cell_of_block bb4 8
      have cb9 := Joins.cell_of_block bb4 9
      go_wp2_with fail
      refine (P4.out _).mono ?_
      rintro e w5 ⟨hlu, he, hl5, hb5⟩
      obtain ⟨hlA, hlC, rfl⟩ := hl5.form
      subst he
      have hs5 := hb5.size
      have hF5 : Below w4.heap.size w4 w5 := hb5
      have hB5 := below_then hB4 hF5
      have zb5 : w.heap.size < w5.heap.size := by omega
      have bb5 := (hF5.block (w.heap.size) zb4).trans bb4
      have zo5 : w.heap.size + 1 < w5.heap.size := by omega
      have bo5 := (hF5.block (w.heap.size + 1) zo4).trans bo4
      have zu5 : w.heap.size + 1 + 1 < w5.heap.size := by omega
      have bu5 := (hF5.block (w.heap.size + 1 + 1) zu4).trans bu4
      have zx5 : w2.heap.size < w5.heap.size := by omega
      have bx5 := (hF5.block (w2.heap.size) zx4).trans bx4
      have zy5 : w3.heap.size < w5.heap.size := by omega
      have by5 := (hF5.block (w3.heap.size) zy4).trans by4
      clear hb5 hF5 hB4 hs4 zb4 bb4 zo4 bo4 zu4 bu4 zx4 bx4 zy4 by4 cx0 cx1 cb0 cb1 cb2 cb3 cb4 cb5 cb6 cb7 cb8 cb9
      have co0 := Joins.cell_of_block bo5 0
      have co1 := Joins.cell_of_block bo5 1
      have cu0 := Joins.cell_of_block bu5 0
      have cu1 := Joins.cell_of_block bu5 1
      have cx0 := Joins.cell_of_block bx5 0
      have cx1 := Joins.cell_of_block bx5 1
      have cy0 := Joins.cell_of_block by5 0
      have cy1 := Joins.cell_of_block by5 1
      go_wp2_with fail
      go_loopw [16, 17, 18] (fun u a i wr => ∃ j : Nat, j ≤ L.length ∧ i = .int .i64 j ∧ a = .int .i64 (allQ L j) ∧ u = .int .i64 (inQ L ⟨lo, hi⟩ j) ∧ w5 = wr) (fun _ _ i _ => L.length - (intOf i).toNat)
      case atStart => exact ⟨0, by omega, rfl, rfl, rfl, rfl⟩
      case round =>
        obtain ⟨j, hj, rfl, rfl, rfl, rfl⟩ := hrel
        by_cases hlt : j < L.length
        · have dlt : decide ((j : Int) < (L.length : Int)) = true := decide_eq_true (by omega)
          obtain ⟨qA, qcap, qe, q1, q2, q3⟩ := Ints.open_ hl5
          cases qe
          obtain ⟨qb, qoff, qx, rfl, qB, qX, qc⟩ := q3 j hlt
          have s1 := allQ_step qX
          have b0 := HAI.out.1 j (by omega)
          have b1 := HAI.out.1 (j + 1) (by omega)
          have b2 := HAI.out.2 j (by omega)
          rw [s1] at b1
          clear q3
          by_cases hlo : lo ≤ j
          · by_cases hhi : (j : Int) ≤ hi
            · have dl : decide ((j : Int) ≥ lo) = true := decide_eq_true (by omega)
              have dh : decide ((j : Int) ≤ hi) = true := decide_eq_true (by omega)
              have s2 := inQ_yes (s := ⟨lo, hi⟩) qX hlo hhi
              have b3 := HAI.out.2 (j + 1) (by omega)
              rw [s2] at b3
              have S1 := Lib.hid s1
              have S2 := Lib.hid s2
              clear s1 s2
              go_wp2
              go_roundw
              case rel => exact ⟨j + 1, by omega, by go_num, by rw [S1.out], by rw [S2.out], by first | rfl | trivial⟩
              case measure => simp [intOf]; omega
            · have dl : decide ((j : Int) ≥ lo) = true := decide_eq_true (by omega)
              have dh : decide ((j : Int) ≤ hi) = false := decide_eq_false (by omega)
              have s2 := inQ_no (l := L) (s := ⟨lo, hi⟩) (j := j) (by simp only; omega)
              have S1 := Lib.hid s1
              have S2 := Lib.hid s2
              clear s1 s2
              go_wp2
              go_roundw
              case rel => exact ⟨j + 1, by omega, by go_num, by rw [S1.out], by rw [S2.out], by first | rfl | trivial⟩
              case measure => simp [intOf]; omega
          · have dl : decide ((j : Int) ≥ lo) = false := decide_eq_false (by omega)
            have s2 := inQ_no (l := L) (s := ⟨lo, hi⟩) (j := j) (by simp only; omega)
            have S1 := Lib.hid s1
            have S2 := Lib.hid s2
            clear s1 s2
            go_wp2
            go_roundw
            case rel => exact ⟨j + 1, by omega, by go_num, by rw [S1.out], by rw [S2.out], by first | rfl | trivial⟩
            case measure => simp [intOf]; omega
        · obtain rfl : j = L.length := by omega
          have dlt : decide ((L.length : Int) < (L.length : Int)) = false := decide_eq_false (by omega)
          obtain ⟨e1, e2⟩ := HE.out
          have u1 := HAI.out.2 L.length (Nat.le_refl _)
          rw [e2] at u1
          rw [e1, e2]
          clear e1 e2
          have x1 : 0 ≤ two.num * one.den ∧ two.num * one.den ≤ 100000000 := ⟨Int.mul_nonneg v23 (by omega), Int.le_trans (Int.mul_le_mul (show two.num ≤ 10000 by omega) v12 (by omega) (by omega)) (by omega)⟩
          have x2 : 0 ≤ one.num * two.den ∧ one.num * two.den ≤ 100000000 := ⟨Int.mul_nonneg v13 (by omega), Int.le_trans (Int.mul_le_mul (show one.num ≤ 10000 by omega) v22 (by omega) (by omega)) (by omega)⟩
          have x3 : 0 ≤ U * one.den ∧ U * one.den ≤ 4959185329481040000 := ⟨Int.mul_nonneg u1.1 (by omega), Int.le_trans (Int.mul_le_mul (show U ≤ 495918532948104 by omega) v12 (by omega) (by omega)) (by omega)⟩
          have x4 : 0 ≤ T * one.num ∧ T * one.num ≤ 4959185329481040000 := ⟨Int.mul_nonneg (by omega) v13, Int.le_trans (Int.mul_le_mul tt2 (show one.num ≤ 10000 by omega) v13 (by omega)) (by omega)⟩
          obtain ⟨x11, x12⟩ := x1
          obtain ⟨x21, x22⟩ := x2
          obtain ⟨x31, x32⟩ := x3
          obtain ⟨x41, x42⟩ := x4
          have d7 : decide (U * one.den ≥ T * one.num) = true := decide_eq_true HA4.out
          by_cases hg : two.num * one.den ≥ one.num * two.den
          · have d5 : decide (two.num * one.den ≥ one.num * two.den) = true := decide_eq_true hg
            have d6 : decide (hi2 - lo2 ≥ hi - lo) = true := decide_eq_true (HW.out hg)
            go_wp2_with fail
            go_ret
            exact ⟨rfl, hB5⟩
          · have d5 : decide (two.num * one.den ≥ one.num * two.den) = false := decide_eq_false hg
            go_wp2_with fail
            go_ret
            exact ⟨rfl, hB5⟩
    · generalize shortestR b sort one = X at *
      generalize shortestR b sort two = Y at *
      have d1 : (X.2 != 0) = false := by simp [m1, h1]
      have d2 : (Y.2 != 0) = true := by simp [m2, h2]
      have P1 := Lib.hid p1
      have P2 := Lib.hid p2
      clear p1 p2 m1 m2 h1 h2
      unfold btV rtV
      go_enter Try.func17, Try.ntmps17
      go_wp2_with fail
      refine (head_c S _).mono ?_
      rintro e w1 ⟨he, hb1⟩
      subst he
      have hs1 := hb1.size
      simp only [World.size_alloc] at hs1
      have hF1 : Below w.heap.size w w1 := (below_then (below_alloc _ _) (below_then (below_alloc _ _) (below_then (below_alloc _ _) hb1)))
      have hB1 := hF1
      have zb1 : w.heap.size < w1.heap.size := by omega
      have bb1 : w1.heap[w.heap.size]? = some (.cells #[.int .i64 b.n, .int .i64 b.s.a, .int .i64 b.s.b, .int .i64 b.s.c, .int .i64 b.k0.lo, .int .i64 b.k0.hi, .int .i64 b.k1.lo, .int .i64 b.k1.hi, .int .i64 b.k2.lo, .int .i64 b.k2.hi] 38) := (hb1.block (w.heap.size) (by simp <;> omega)).trans ((Below.heap_alloc _ _ _ (by simp <;> omega)).trans ((Below.heap_alloc _ _ _ (by simp)).trans (alloc_at w (.cells #[.int .i64 b.n, .int .i64 b.s.a, .int .i64 b.s.b, .int .i64 b.s.c, .int .i64 b.k0.lo, .int .i64 b.k0.hi, .int .i64 b.k1.lo, .int .i64 b.k1.hi, .int .i64 b.k2.lo, .int .i64 b.k2.hi] 38) (by first | rfl | simp))))
      have zo1 : w.heap.size + 1 < w1.heap.size := by omega
      have bo1 : w1.heap[w.heap.size + 1]? = some (.cells #[.int .i64 one.num, .int .i64 one.den] 30) := (hb1.block (w.heap.size + 1) (by simp <;> omega)).trans ((Below.heap_alloc _ _ _ (by simp)).trans (alloc_at (w.alloc (.cells #[.int .i64 b.n, .int .i64 b.s.a, .int .i64 b.s.b, .int .i64 b.s.c, .int .i64 b.k0.lo, .int .i64 b.k0.hi, .int .i64 b.k1.lo, .int .i64 b.k1.hi, .int .i64 b.k2.lo, .int .i64 b.k2.hi] 38)) (.cells #[.int .i64 one.num, .int .i64 one.den] 30) (by first | rfl | simp)))
      have zu1 : w.heap.size + 1 + 1 < w1.heap.size := by omega
      have bu1 : w1.heap[w.heap.size + 1 + 1]? = some (.cells #[.int .i64 two.num, .int .i64 two.den] 30) := (hb1.block (w.heap.size + 1 + 1) (by simp)).trans (alloc_at ((w.alloc (.cells #[.int .i64 b.n, .int .i64 b.s.a, .int .i64 b.s.b, .int .i64 b.s.c, .int .i64 b.k0.lo, .int .i64 b.k0.hi, .int .i64 b.k1.lo, .int .i64 b.k1.hi, .int .i64 b.k2.lo, .int .i64 b.k2.hi] 38)).alloc (.cells #[.int .i64 one.num, .int .i64 one.den] 30)) (.cells #[.int .i64 two.num, .int .i64 two.den] 30) (by first | rfl | simp))
      clear hb1 hF1
      have cb0 := Joins.cell_of_block bb1 0
      have cb1 := Joins.cell_of_block bb1 1
      have cb2 := Joins.cell_of_block bb1 2
      have cb3 := Joins.cell_of_block bb1 3
      have cb4 := Joins.cell_of_block bb1 4
      have cb5 := Joins.cell_of_block bb1 5
      have cb6 := Joins.cell_of_block bb1 6
      have cb7 := Joins.cell_of_block bb1 7
      have cb8 := Joins.cell_of_block bb1 8
      have cb9 := Joins.cell_of_block bb1 9
      have co0 := Joins.cell_of_block bo1 0
      have co1 := Joins.cell_of_block bo1 1
      go_wp2_with fail
      refine (P1.out _).mono ?_
      rintro e w2 ⟨he, hb2⟩
      unfold spV at he
      subst he
      have hs2 := hb2.size
      have hF2 : Below w1.heap.size w1 w2 := hb2
      have hB2 := below_then hB1 hF2
      have zb2 : w.heap.size < w2.heap.size := by omega
      have bb2 := (hF2.block (w.heap.size) zb1).trans bb1
      have zo2 : w.heap.size + 1 < w2.heap.size := by omega
      have bo2 := (hF2.block (w.heap.size + 1) zo1).trans bo1
      have zu2 : w.heap.size + 1 + 1 < w2.heap.size := by omega
      have bu2 := (hF2.block (w.heap.size + 1 + 1) zu1).trans bu1
      clear hb2 hF2 hB1 hs1 zb1 bb1 zo1 bo1 zu1 bu1 cb0 cb1 cb2 cb3 cb4 cb5 cb6 cb7 cb8 cb9 co0 co1
      have cb0 := Joins.cell_of_block bb2 0
      have cb1 := Joins.cell_of_block bb2 1
      have cb2 := Joins.cell_of_block bb2 2
      have cb3 := Joins.cell_of_block bb2 3
      have cb4 := Joins.cell_of_block bb2 4
      have cb5 := Joins.cell_of_block bb2 5
      have cb6 := Joins.cell_of_block bb2 6
      have cb7 := Joins.cell_of_block bb2 7
      have cb8 := Joins.cell_of_block bb2 8
      have cb9 := Joins.cell_of_block bb2 9
      have cu0 := Joins.cell_of_block bu2 0
      have cu1 := Joins.cell_of_block bu2 1
      go_wp2_with fail
      refine (P2.out _).mono ?_
      rintro e w3 ⟨he, hb3⟩
      unfold spV at he
      subst he
      have hs3 := hb3.size
      simp only [World.size_alloc] at hs3
      have hF3 : Below w2.heap.size w2 w3 := (below_then (below_alloc _ _) hb3)
      have hB3 := below_then hB2 hF3
      have zb3 : w.heap.size < w3.heap.size := by omega
      have bb3 := (hF3.block (w.heap.size) zb2).trans bb2
      have zo3 : w.heap.size + 1 < w3.heap.size := by omega
      have bo3 := (hF3.block (w.heap.size + 1) zo2).trans bo2
      have zu3 : w.heap.size + 1 + 1 < w3.heap.size := by omega
      have bu3 := (hF3.block (w.heap.size + 1 + 1) zu2).trans bu2
      have zx3 : w2.heap.size < w3.heap.size := by omega
      have bx3 : w3.heap[w2.heap.size]? = some (.cells #[.int .i64 X.1.lo, .int .i64 X.1.hi] 35) := (hb3.block (w2.heap.size) (by simp)).trans (alloc_at w2 (.cells #[.int .i64 X.1.lo, .int .i64 X.1.hi] 35) (by first | rfl | simp))
      clear hb3 hF3 hB2 hs2 zb2 bb2 zo2 bo2 zu2 bu2 cb0 cb1 cb2 cb3 cb4 cb5 cb6 cb7 cb8 cb9 cu0 cu1
      go_wp2_with fail
      go_ret
      exact ⟨rfl, below_then hB3 (below_then (below_alloc _ _) (Below.refl _ _))⟩
  · generalize shortestR b sort one = X at *
    generalize shortestR b sort two = Y at *
    have d1 : (X.2 != 0) = true := by simp [m1, h1]
    have P1 := Lib.hid p1
    have P2 := Lib.hid p2
    clear p1 p2 m1 m2 h1
    unfold btV rtV
    go_enter Try.func17, Try.ntmps17
    go_wp2_with fail
    refine (head_c S _).mono ?_
    rintro e w1 ⟨he, hb1⟩
    subst he
    have hs1 := hb1.size
    simp only [World.size_alloc] at hs1
    have hF1 : Below w.heap.size w w1 := (below_then (below_alloc _ _) (below_then (below_alloc _ _) (below_then (below_alloc _ _) hb1)))
    have hB1 := hF1
    have zb1 : w.heap.size < w1.heap.size := by omega
    have bb1 : w1.heap[w.heap.size]? = some (.cells #[.int .i64 b.n, .int .i64 b.s.a, .int .i64 b.s.b, .int .i64 b.s.c, .int .i64 b.k0.lo, .int .i64 b.k0.hi, .int .i64 b.k1.lo, .int .i64 b.k1.hi, .int .i64 b.k2.lo, .int .i64 b.k2.hi] 38) := (hb1.block (w.heap.size) (by simp <;> omega)).trans ((Below.heap_alloc _ _ _ (by simp <;> omega)).trans ((Below.heap_alloc _ _ _ (by simp)).trans (alloc_at w (.cells #[.int .i64 b.n, .int .i64 b.s.a, .int .i64 b.s.b, .int .i64 b.s.c, .int .i64 b.k0.lo, .int .i64 b.k0.hi, .int .i64 b.k1.lo, .int .i64 b.k1.hi, .int .i64 b.k2.lo, .int .i64 b.k2.hi] 38) (by first | rfl | simp))))
    have zo1 : w.heap.size + 1 < w1.heap.size := by omega
    have bo1 : w1.heap[w.heap.size + 1]? = some (.cells #[.int .i64 one.num, .int .i64 one.den] 30) := (hb1.block (w.heap.size + 1) (by simp <;> omega)).trans ((Below.heap_alloc _ _ _ (by simp)).trans (alloc_at (w.alloc (.cells #[.int .i64 b.n, .int .i64 b.s.a, .int .i64 b.s.b, .int .i64 b.s.c, .int .i64 b.k0.lo, .int .i64 b.k0.hi, .int .i64 b.k1.lo, .int .i64 b.k1.hi, .int .i64 b.k2.lo, .int .i64 b.k2.hi] 38)) (.cells #[.int .i64 one.num, .int .i64 one.den] 30) (by first | rfl | simp)))
    have zu1 : w.heap.size + 1 + 1 < w1.heap.size := by omega
    have bu1 : w1.heap[w.heap.size + 1 + 1]? = some (.cells #[.int .i64 two.num, .int .i64 two.den] 30) := (hb1.block (w.heap.size + 1 + 1) (by simp)).trans (alloc_at ((w.alloc (.cells #[.int .i64 b.n, .int .i64 b.s.a, .int .i64 b.s.b, .int .i64 b.s.c, .int .i64 b.k0.lo, .int .i64 b.k0.hi, .int .i64 b.k1.lo, .int .i64 b.k1.hi, .int .i64 b.k2.lo, .int .i64 b.k2.hi] 38)).alloc (.cells #[.int .i64 one.num, .int .i64 one.den] 30)) (.cells #[.int .i64 two.num, .int .i64 two.den] 30) (by first | rfl | simp))
    clear hb1 hF1
    have cb0 := Joins.cell_of_block bb1 0
    have cb1 := Joins.cell_of_block bb1 1
    have cb2 := Joins.cell_of_block bb1 2
    have cb3 := Joins.cell_of_block bb1 3
    have cb4 := Joins.cell_of_block bb1 4
    have cb5 := Joins.cell_of_block bb1 5
    have cb6 := Joins.cell_of_block bb1 6
    have cb7 := Joins.cell_of_block bb1 7
    have cb8 := Joins.cell_of_block bb1 8
    have cb9 := Joins.cell_of_block bb1 9
    have co0 := Joins.cell_of_block bo1 0
    have co1 := Joins.cell_of_block bo1 1
    go_wp2_with fail
    refine (P1.out _).mono ?_
    rintro e w2 ⟨he, hb2⟩
    unfold spV at he
    subst he
    have hs2 := hb2.size
    have hF2 : Below w1.heap.size w1 w2 := hb2
    have hB2 := below_then hB1 hF2
    have zb2 : w.heap.size < w2.heap.size := by omega
    have bb2 := (hF2.block (w.heap.size) zb1).trans bb1
    have zo2 : w.heap.size + 1 < w2.heap.size := by omega
    have bo2 := (hF2.block (w.heap.size + 1) zo1).trans bo1
    have zu2 : w.heap.size + 1 + 1 < w2.heap.size := by omega
    have bu2 := (hF2.block (w.heap.size + 1 + 1) zu1).trans bu1
    clear hb2 hF2 hB1 hs1 zb1 bb1 zo1 bo1 zu1 bu1 cb0 cb1 cb2 cb3 cb4 cb5 cb6 cb7 cb8 cb9 co0 co1
    have cb0 := Joins.cell_of_block bb2 0
    have cb1 := Joins.cell_of_block bb2 1
    have cb2 := Joins.cell_of_block bb2 2
    have cb3 := Joins.cell_of_block bb2 3
    have cb4 := Joins.cell_of_block bb2 4
    have cb5 := Joins.cell_of_block bb2 5
    have cb6 := Joins.cell_of_block bb2 6
    have cb7 := Joins.cell_of_block bb2 7
    have cb8 := Joins.cell_of_block bb2 8
    have cb9 := Joins.cell_of_block bb2 9
    have cu0 := Joins.cell_of_block bu2 0
    have cu1 := Joins.cell_of_block bu2 1
    go_wp2_with fail
    refine (P2.out _).mono ?_
    rintro e w3 ⟨he, hb3⟩
    unfold spV at he
    subst he
    have hs3 := hb3.size
    simp only [World.size_alloc] at hs3
    have hF3 : Below w2.heap.size w2 w3 := (below_then (below_alloc _ _) hb3)
    have hB3 := below_then hB2 hF3
    have zb3 : w.heap.size < w3.heap.size := by omega
    have bb3 := (hF3.block (w.heap.size) zb2).trans bb2
    have zo3 : w.heap.size + 1 < w3.heap.size := by omega
    have bo3 := (hF3.block (w.heap.size + 1) zo2).trans bo2
    have zu3 : w.heap.size + 1 + 1 < w3.heap.size := by omega
    have bu3 := (hF3.block (w.heap.size + 1 + 1) zu2).trans bu2
    have zx3 : w2.heap.size < w3.heap.size := by omega
    have bx3 : w3.heap[w2.heap.size]? = some (.cells #[.int .i64 X.1.lo, .int .i64 X.1.hi] 35) := (hb3.block (w2.heap.size) (by simp)).trans (alloc_at w2 (.cells #[.int .i64 X.1.lo, .int .i64 X.1.hi] 35) (by first | rfl | simp))
    clear hb3 hF3 hB2 hs2 zb2 bb2 zo2 bo2 zu2 bu2 cb0 cb1 cb2 cb3 cb4 cb5 cb6 cb7 cb8 cb9 cu0 cu1
    go_wp2_with fail
    go_ret
    exact ⟨rfl, below_then hB3 (below_then (below_alloc _ _) (Below.refl _ _))⟩
end Go.Proofs.Ytihgkeokhfmccaa
