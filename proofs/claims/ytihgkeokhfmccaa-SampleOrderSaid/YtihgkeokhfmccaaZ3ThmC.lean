/- Samples in turn: what is believed does not depend on their order, nor on whether they are told as one. -/
import Derived.Test.YtihgkeokhfmccaaJ12
import Derived.Test.YtihgkeokhfmccaaZ3MathF
namespace Go.Proofs.Ytihgkeokhfmccaa
open Go Go.RowKit

open Go.Deep
set_option maxHeartbeats 3200000 in
set_option maxRecDepth 100000 in
theorem SampleOrder_w (S : Sam) (b : Bt) (one two : K3) (sort : Int) (w : World) : Calls Try.prog 16 #[btV b, k3V one, k3V two, .int .i64 sort] w fun e w' => e = .returned (.bool true) ∧ Below w.heap.size w w' := by
  have eqRt := Try.eqRt
  have eqSp := Try.eqSp
  have eqTr := Try.eqTr
  have eqBt := Try.eqBt
  have neRt := Try.neRt
  have neBt := Try.neBt
  have eqK3 := Try.eqK3
  have p1 := fun w => S.More b one w
  have p2 := fun w => S.More b two w
  have m1 := more_snd b one
  have m2 := more_snd b two
  by_cases h1 : moreE b one = 0
  · by_cases h2 : moreE b two = 0
    · rw [more_good h1] at p1
      rw [more_good h2] at p2
      have hs := more_small h1
      have ht := more_small h2
      obtain ⟨e3, e4⟩ := more_both h1 h2
      have p3 := fun w => S.More (addB b one) two w
      have p4 := fun w => S.More (addB b two) one w
      rw [← e3] at p4
      have p5 := fun w => S.More b (plus3 one two) w
      rw [← e4] at p5
      have M3 := Lib.hid (more_snd (addB b one) two)
      clear e3
      obtain ⟨Z, hZ⟩ : ∃ Z, Z = moreR (addB b one) two := ⟨_, rfl⟩
      rw [← hZ] at p3 p4 p5 e4
      have d3 : (Z.2 != Z.2) = false := by simp
      have P1 := Lib.hid p1
      have P2 := Lib.hid p2
      have P3 := Lib.hid p3
      have P4 := Lib.hid p4
      have P5 := Lib.hid p5
      clear p1 p2 p3 p4 p5 m1 m2
      have HZ := Lib.hid hZ
      have H4 := Lib.hid e4
      clear hZ e4
      unfold plus3 at P5
      obtain ⟨hs1, hs2, hs3, hs4, hs5, hs6⟩ := hs
      obtain ⟨ht1, ht2, ht3, ht4, ht5, ht6⟩ := ht
      unfold btV k3V
      go_enter Try.func16, Try.ntmps16
      go_wp2_with fail
      refine (head_c S _).mono ?_
      rintro e w1 ⟨he, hb1⟩
      subst he
      have hs1 := hb1.size
      simp only [World.size_alloc] at hs1
      have hF1 : Below w.heap.size w w1 := (below_then (below_alloc _ _) (below_then (below_alloc _ _) (below_then (below_alloc _ _) hb1)))
      have hB1 := hF1
      have zb1 : w.heap.size < w1.heap.size := by omega
      have bb1 : w1.heap[w.heap.size]? = some (.cells #[.int .i64 b.n, .int .i64 b.s.a, .int .i64 b.s.b, .int .i64 b.s.c, .int .i64 b.k0.lo, .int .i64 b.k0.hi, .int .i64 b.k1.lo, .int .i64 b.k1.hi, .int .i64 b.k2.lo, .int .i64 b.k2.hi] 38) := (hb1.block (w.heap.size) (by simp <;> omega)).trans ((Below.heap_alloc _ _ _ (by simp <;> omega)).trans ((Below.heap_alloc _ _ _ (by simp)).trans (alloc_at w (.cells #[.int .i64 b.n, .int .i64 b.s.a, .int .i64 b.s.b, .int .i64 b.s.c, .int .i64 b.k0.lo, .int .i64 b.k0.hi, .int .i64 b.k1.lo, .int .i64 b.k1.hi, .int .i64 b.k2.lo, .int .i64 b.k2.hi] 38) (by first | rfl | simp))))
      have zo1 : w.heap.size + 1 < w1.heap.size := by omega
      have bo1 : w1.heap[w.heap.size + 1]? = some (.cells #[.int .i64 one.a, .int .i64 one.b, .int .i64 one.c] 23) := (hb1.block (w.heap.size + 1) (by simp <;> omega)).trans ((Below.heap_alloc _ _ _ (by simp)).trans (alloc_at (w.alloc (.cells #[.int .i64 b.n, .int .i64 b.s.a, .int .i64 b.s.b, .int .i64 b.s.c, .int .i64 b.k0.lo, .int .i64 b.k0.hi, .int .i64 b.k1.lo, .int .i64 b.k1.hi, .int .i64 b.k2.lo, .int .i64 b.k2.hi] 38)) (.cells #[.int .i64 one.a, .int .i64 one.b, .int .i64 one.c] 23) (by first | rfl | simp)))
      have zu1 : w.heap.size + 1 + 1 < w1.heap.size := by omega
      have bu1 : w1.heap[w.heap.size + 1 + 1]? = some (.cells #[.int .i64 two.a, .int .i64 two.b, .int .i64 two.c] 23) := (hb1.block (w.heap.size + 1 + 1) (by simp)).trans (alloc_at ((w.alloc (.cells #[.int .i64 b.n, .int .i64 b.s.a, .int .i64 b.s.b, .int .i64 b.s.c, .int .i64 b.k0.lo, .int .i64 b.k0.hi, .int .i64 b.k1.lo, .int .i64 b.k1.hi, .int .i64 b.k2.lo, .int .i64 b.k2.hi] 38)).alloc (.cells #[.int .i64 one.a, .int .i64 one.b, .int .i64 one.c] 23)) (.cells #[.int .i64 two.a, .int .i64 two.b, .int .i64 two.c] 23) (by first | rfl | simp))
      clear hb1 hF1
      have cb0 := Joins.cell_of_block bb1 0
      have cb1 := Joins.cell_of_block bb1 1
      have cb2 := Joins.cell_of_block bb1 2
      have cb3 := Joins.cell_of_block bb1 3
      have cb4 := Joins.cell_of_block bb1 4
      have cb5 := Joins.cell_of_block bb1 5
      have cb6 := Joins.cell_of_block bb1 6
      have cb7 := Joins.cell_of_block bb1 7
      have cb8 := Joins.cell_of_block bb1 8
      have cb9 := Joins.cell_of_block bb1 9
      have co0 := Joins.cell_of_block bo1 0
      have co1 := Joins.cell_of_block bo1 1
      have co2 := Joins.cell_of_block bo1 2
      go_wp2_with fail
      refine (P1.out _).mono ?_
      rintro e w2 ⟨he, hb2⟩
      unfold btV at he
      subst he
      have hs2 := hb2.size
      have hF2 : Below w1.heap.size w1 w2 := hb2
      have hB2 := below_then hB1 hF2
      have zb2 : w.heap.size < w2.heap.size := by omega
      have bb2 := (hF2.block (w.heap.size) zb1).trans bb1
      have zo2 : w.heap.size + 1 < w2.heap.size := by omega
      have bo2 := (hF2.block (w.heap.size + 1) zo1).trans bo1
      have zu2 : w.heap.size + 1 + 1 < w2.heap.size := by omega
      have bu2 := (hF2.block (w.heap.size + 1 + 1) zu1).trans bu1
      clear hb2 hF2 hB1 hs1 zb1 bb1 zo1 bo1 zu1 bu1 cb0 cb1 cb2 cb3 cb4 cb5 cb6 cb7 cb8 cb9 co0 co1 co2
      have cb0 := Joins.cell_of_block bb2 0
      have cb1 := Joins.cell_of_block bb2 1
      have cb2 := Joins.cell_of_block bb2 2
      have cb3 := Joins.cell_of_block bb2 3
      have cb4 := Joins.cell_of_block bb2 4
      have cb5 := Joins.cell_of_block bb2 5
      have cb6 := Joins.cell_of_block bb2 6
      have cb7 := Joins.cell_of_block bb2 7
      have cb8 := Joins.cell_of_block bb2 8
      have cb9 := Joins.cell_of_block bb2 9
      have cu0 := Joins.cell_of_block bu2 0
      have cu1 := Joins.cell_of_block bu2 1
      have cu2 := Joins.cell_of_block bu2 2
      go_wp2_with fail
      refine (P2.out _).mono ?_
      rintro e w3 ⟨he, hb3⟩
      unfold btV at he
      subst he
      have hs3 := hb3.size
      simp only [World.size_alloc] at hs3
      have hF3 : Below w2.heap.size w2 w3 := (below_then (below_alloc _ _) hb3)
      have hB3 := below_then hB2 hF3
      have lbx := zb2
      have zb3 : w.heap.size < w3.heap.size := by omega
      have bb3 := (hF3.block (w.heap.size) zb2).trans bb2
      have lox := zo2
      have zo3 : w.heap.size + 1 < w3.heap.size := by omega
      have bo3 := (hF3.block (w.heap.size + 1) zo2).trans bo2
      have lux := zu2
      have zu3 : w.heap.size + 1 + 1 < w3.heap.size := by omega
      have bu3 := (hF3.block (w.heap.size + 1 + 1) zu2).trans bu2
      have zx3 : w2.heap.size < w3.heap.size := by omega
      have bx3 : w3.heap[w2.heap.size]? = some (.cells #[.int .i64 (addB b one).n, .int .i64 (addB b one).s.a, .int .i64 (addB b one).s.b, .int .i64 (addB b one).s.c, .int .i64 (addB b one).k0.lo, .int .i64 (addB b one).k0.hi, .int .i64 (addB b one).k1.lo, .int .i64 (addB b one).k1.hi, .int .i64 (addB b one).k2.lo, .int .i64 (addB b one).k2.hi] 38) := (hb3.block (w2.heap.size) (by simp)).trans (alloc_at w2 (.cells #[.int .i64 (addB b one).n, .int .i64 (addB b one).s.a, .int .i64 (addB b one).s.b, .int .i64 (addB b one).s.c, .int .i64 (addB b one).k0.lo, .int .i64 (addB b one).k0.hi, .int .i64 (addB b one).k1.lo, .int .i64 (addB b one).k1.hi, .int .i64 (addB b one).k2.lo, .int .i64 (addB b one).k2.hi] 38) (by first | rfl | simp))
      clear hb3 hF3 hB2 hs2 zb2 bb2 zo2 bo2 zu2 bu2 cb0 cb1 cb2 cb3 cb4 cb5 cb6 cb7 cb8 cb9 cu0 cu1 cu2
      have cu0 := Joins.cell_of_block bu3 0
      have cu1 := Joins.cell_of_block bu3 1
      have cu2 := Joins.cell_of_block bu3 2
      have cx0 := Joins.cell_of_block bx3 0
      have cx1 := Joins.cell_of_block bx3 1
      have cx2 := Joins.cell_of_block bx3 2
      have cx3 := Joins.cell_of_block bx3 3
      have cx4 := Joins.cell_of_block bx3 4
      have cx5 := Joins.cell_of_block bx3 5
      have cx6 := Joins.cell_of_block bx3 6
      have cx7 := Joins.cell_of_block bx3 7
      have cx8 := Joins.cell_of_block bx3 8
      have cx9 := Joins.cell_of_block bx3 9
      go_wp2_with fail
      refine (P3.out _).mono ?_
      rintro e w4 ⟨he, hb4⟩
      unfold btV at he
      subst he
      have hs4 := hb4.size
      simp only [World.size_alloc] at hs4
      have hF4 : Below w3.heap.size w3 w4 := (below_then (below_alloc _ _) hb4)
      have hB4 := below_then hB3 hF4
      have lby := zb3
      have zb4 : w.heap.size < w4.heap.size := by omega
      have bb4 := (hF4.block (w.heap.size) zb3).trans bb3
      have loy := zo3
      have zo4 : w.heap.size + 1 < w4.heap.size := by omega
      have bo4 := (hF4.block (w.heap.size + 1) zo3).trans bo3
      have luy := zu3
      have zu4 : w.heap.size + 1 + 1 < w4.heap.size := by omega
      have bu4 := (hF4.block (w.heap.size + 1 + 1) zu3).trans bu3
      have lxy := zx3
      have zx4 : w2.heap.size < w4.heap.size := by omega
      have bx4 := (hF4.block (w2.heap.size) zx3).trans bx3
      have zy4 : w3.heap.size < w4.heap.size := by omega
      have by4 : w4.heap[w3.heap.size]? = some (.cells #[.int .i64 (addB b two).n, .int .i64 (addB b two).s.a, .int .i64 (addB b two).s.b, .int .i64 (addB b two).s.c, .int .i64 (addB b two).k0.lo, .int .i64 (addB b two).k0.hi, .int .i64 (addB b two).k1.lo, .int .i64 (addB b two).k1.hi, .int .i64 (addB b two).k2.lo, .int .i64 (addB b two).k2.hi] 38) := (hb4.block (w3.heap.size) (by simp)).trans (alloc_at w3 (.cells #[.int .i64 (addB b two).n, .int .i64 (addB b two).s.a, .int .i64 (addB b two).s.b, .int .i64 (addB b two).s.c, .int .i64 (addB b two).k0.lo, .int .i64 (addB b two).k0.hi, .int .i64 (addB b two).k1.lo, .int .i64 (addB b two).k1.hi, .int .i64 (addB b two).k2.lo, .int .i64 (addB b two).k2.hi] 38) (by first | rfl | simp))
      clear hb4 hF4 hB3 hs3 zb3 bb3 zo3 bo3 zu3 bu3 zx3 bx3 cu0 cu1 cu2 cx0 cx1 cx2 cx3 cx4 cx5 cx6 cx7 cx8 cx9
      have hs5 : (w4.setRow (w2.heap.size) #[.int .i64 Z.1.n, .int .i64 Z.1.s.a, .int .i64 Z.1.s.b, .int .i64 Z.1.s.c, .int .i64 Z.1.k0.lo, .int .i64 Z.1.k0.hi, .int .i64 Z.1.k1.lo, .int .i64 Z.1.k1.hi, .int .i64 Z.1.k2.lo, .int .i64 Z.1.k2.hi]).heap.size = w4.heap.size := size_setRow _ _ _
      have hB5 := below_setRow hB4 (show w.heap.size ≤ w2.heap.size by omega) #[.int .i64 Z.1.n, .int .i64 Z.1.s.a, .int .i64 Z.1.s.b, .int .i64 Z.1.s.c, .int .i64 Z.1.k0.lo, .int .i64 Z.1.k0.hi, .int .i64 Z.1.k1.lo, .int .i64 Z.1.k1.hi, .int .i64 Z.1.k2.lo, .int .i64 Z.1.k2.hi]
      have zb5 : w.heap.size < (w4.setRow (w2.heap.size) #[.int .i64 Z.1.n, .int .i64 Z.1.s.a, .int .i64 Z.1.s.b, .int .i64 Z.1.s.c, .int .i64 Z.1.k0.lo, .int .i64 Z.1.k0.hi, .int .i64 Z.1.k1.lo, .int .i64 Z.1.k1.hi, .int .i64 Z.1.k2.lo, .int .i64 Z.1.k2.hi]).heap.size := by omega
      have bb5 := (setRow_other w4 (w2.heap.size) (w.heap.size) #[.int .i64 Z.1.n, .int .i64 Z.1.s.a, .int .i64 Z.1.s.b, .int .i64 Z.1.s.c, .int .i64 Z.1.k0.lo, .int .i64 Z.1.k0.hi, .int .i64 Z.1.k1.lo, .int .i64 Z.1.k1.hi, .int .i64 Z.1.k2.lo, .int .i64 Z.1.k2.hi] (by omega)).trans bb4
      have zo5 : w.heap.size + 1 < (w4.setRow (w2.heap.size) #[.int .i64 Z.1.n, .int .i64 Z.1.s.a, .int .i64 Z.1.s.b, .int .i64 Z.1.s.c, .int .i64 Z.1.k0.lo, .int .i64 Z.1.k0.hi, .int .i64 Z.1.k1.lo, .int .i64 Z.1.k1.hi, .int .i64 Z.1.k2.lo, .int .i64 Z.1.k2.hi]).heap.size := by omega
      have bo5 := (setRow_other w4 (w2.heap.size) (w.heap.size + 1) #[.int .i64 Z.1.n, .int .i64 Z.1.s.a, .int .i64 Z.1.s.b, .int .i64 Z.1.s.c, .int .i64 Z.1.k0.lo, .int .i64 Z.1.k0.hi, .int .i64 Z.1.k1.lo, .int .i64 Z.1.k1.hi, .int .i64 Z.1.k2.lo, .int .i64 Z.1.k2.hi] (by omega)).trans bo4
      have zu5 : w.heap.size + 1 + 1 < (w4.setRow (w2.heap.size) #[.int .i64 Z.1.n, .int .i64 Z.1.s.a, .int .i64 Z.1.s.b, .int .i64 Z.1.s.c, .int .i64 Z.1.k0.lo, .int .i64 Z.1.k0.hi, .int .i64 Z.1.k1.lo, .int .i64 Z.1.k1.hi, .int .i64 Z.1.k2.lo, .int .i64 Z.1.k2.hi]).heap.size := by omega
      have bu5 := (setRow_other w4 (w2.heap.size) (w.heap.size + 1 + 1) #[.int .i64 Z.1.n, .int .i64 Z.1.s.a, .int .i64 Z.1.s.b, .int .i64 Z.1.s.c, .int .i64 Z.1.k0.lo, .int .i64 Z.1.k0.hi, .int .i64 Z.1.k1.lo, .int .i64 Z.1.k1.hi, .int .i64 Z.1.k2.lo, .int .i64 Z.1.k2.hi] (by omega)).trans bu4
      have zx5 : w2.heap.size < (w4.setRow (w2.heap.size) #[.int .i64 Z.1.n, .int .i64 Z.1.s.a, .int .i64 Z.1.s.b, .int .i64 Z.1.s.c, .int .i64 Z.1.k0.lo, .int .i64 Z.1.k0.hi, .int .i64 Z.1.k1.lo, .int .i64 Z.1.k1.hi, .int .i64 Z.1.k2.lo, .int .i64 Z.1.k2.hi]).heap.size := by omega
      have bx5 := setRow_heap w4 (w2.heap.size) _ #[.int .i64 Z.1.n, .int .i64 Z.1.s.a, .int .i64 Z.1.s.b, .int .i64 Z.1.s.c, .int .i64 Z.1.k0.lo, .int .i64 Z.1.k0.hi, .int .i64 Z.1.k1.lo, .int .i64 Z.1.k1.hi, .int .i64 Z.1.k2.lo, .int .i64 Z.1.k2.hi] _ _ bx4
      have zy5 : w3.heap.size < (w4.setRow (w2.heap.size) #[.int .i64 Z.1.n, .int .i64 Z.1.s.a, .int .i64 Z.1.s.b, .int .i64 Z.1.s.c, .int .i64 Z.1.k0.lo, .int .i64 Z.1.k0.hi, .int .i64 Z.1.k1.lo, .int .i64 Z.1.k1.hi, .int .i64 Z.1.k2.lo, .int .i64 Z.1.k2.hi]).heap.size := by omega
      have by5 := (setRow_other w4 (w2.heap.size) (w3.heap.size) #[.int .i64 Z.1.n, .int .i64 Z.1.s.a, .int .i64 Z.1.s.b, .int .i64 Z.1.s.c, .int .i64 Z.1.k0.lo, .int .i64 Z.1.k0.hi, .int .i64 Z.1.k1.lo, .int .i64 Z.1.k1.hi, .int .i64 Z.1.k2.lo, .int .i64 Z.1.k2.hi] (by omega)).trans by4
      clear zb4 bb4 zo4 bo4 zu4 bu4 zx4 zy4 by4 hB4
      have co0 : (w4.setRow (w2.heap.size) #[.int .i64 Z.1.n, .int .i64 Z.1.s.a, .int .i64 Z.1.s.b, .int .i64 Z.1.s.c, .int .i64 Z.1.k0.lo, .int .i64 Z.1.k0.hi, .int .i64 Z.1.k1.lo, .int .i64 Z.1.k1.hi, .int .i64 Z.1.k2.lo, .int .i64 Z.1.k2.hi]).cell? ⟨w.heap.size + 1, 0, none⟩ = _ := Joins.cell_of_block bo5 0
      have co1 : (w4.setRow (w2.heap.size) #[.int .i64 Z.1.n, .int .i64 Z.1.s.a, .int .i64 Z.1.s.b, .int .i64 Z.1.s.c, .int .i64 Z.1.k0.lo, .int .i64 Z.1.k0.hi, .int .i64 Z.1.k1.lo, .int .i64 Z.1.k1.hi, .int .i64 Z.1.k2.lo, .int .i64 Z.1.k2.hi]).cell? ⟨w.heap.size + 1, 1, none⟩ = _ := Joins.cell_of_block bo5 1
      have co2 : (w4.setRow (w2.heap.size) #[.int .i64 Z.1.n, .int .i64 Z.1.s.a, .int .i64 Z.1.s.b, .int .i64 Z.1.s.c, .int .i64 Z.1.k0.lo, .int .i64 Z.1.k0.hi, .int .i64 Z.1.k1.lo, .int .i64 Z.1.k1.hi, .int .i64 Z.1.k2.lo, .int .i64 Z.1.k2.hi]).cell? ⟨w.heap.size + 1, 2, none⟩ = _ := Joins.cell_of_block bo5 2
      have cy0 : (w4.setRow (w2.heap.size) #[.int .i64 Z.1.n, .int .i64 Z.1.s.a, .int .i64 Z.1.s.b, .int .i64 Z.1.s.c, .int .i64 Z.1.k0.lo, .int .i64 Z.1.k0.hi, .int .i64 Z.1.k1.lo, .int .i64 Z.1.k1.hi, .int .i64 Z.1.k2.lo, .int .i64 Z.1.k2.hi]).cell? ⟨w3.heap.size, 0, none⟩ = _ := Joins.cell_of_block by5 0
      have cy1 : (w4.setRow (w2.heap.size) #[.int .i64 Z.1.n, .int .i64 Z.1.s.a, .int .i64 Z.1.s.b, .int .i64 Z.1.s.c, .int .i64 Z.1.k0.lo, .int .i64 Z.1.k0.hi, .int .i64 Z.1.k1.lo, .int .i64 Z.1.k1.hi, .int .i64 Z.1.k2.lo, .int .i64 Z.1.k2.hi]).cell? ⟨w3.heap.size, 1, none⟩ = _ := Joins.cell_of_block by5 1
      have cy2 : (w4.setRow (w2.heap.size) #[.int .i64 Z.1.n, .int .i64 Z.1.s.a, .int .i64 Z.1.s.b, .int .i64 Z.1.s.c, .int .i64 Z.1.k0.lo, .int .i64 Z.1.k0.hi, .int .i64 Z.1.k1.lo, .int .i64 Z.1.k1.hi, .int .i64 Z.1.k2.lo, .int .i64 Z.1.k2.hi]).cell? ⟨w3.heap.size, 2, none⟩ = _ := Joins.cell_of_block by5 2
      have cy3 : (w4.setRow (w2.heap.size) #[.int .i64 Z.1.n, .int .i64 Z.1.s.a, .int .i64 Z.1.s.b, .int .i64 Z.1.s.c, .int .i64 Z.1.k0.lo, .int .i64 Z.1.k0.hi, .int .i64 Z.1.k1.lo, .int .i64 Z.1.k1.hi, .int .i64 Z.1.k2.lo, .int .i64 Z.1.k2.hi]).cell? ⟨w3.heap.size, 3, none⟩ = _ := Joins.cell_of_block by5 3
      have cy4 : (w4.setRow (w2.heap.size) #[.int .i64 Z.1.n, .int .i64 Z.1.s.a, .int .i64 Z.1.s.b, .int .i64 Z.1.s.c, .int .i64 Z.1.k0.lo, .int .i64 Z.1.k0.hi, .int .i64 Z.1.k1.lo, .int .i64 Z.1.k1.hi, .int .i64 Z.1.k2.lo, .int .i64 Z.1.k2.hi]).cell? ⟨w3.heap.size, 4, none⟩ = _ := Joins.cell_of_block by5 4
      have cy5 : (w4.setRow (w2.heap.size) #[.int .i64 Z.1.n, .int .i64 Z.1.s.a, .int .i64 Z.1.s.b, .int .i64 Z.1.s.c, .int .i64 Z.1.k0.lo, .int .i64 Z.1.k0.hi, .int .i64 Z.1.k1.lo, .int .i64 Z.1.k1.hi, .int .i64 Z.1.k2.lo, .int .i64 Z.1.k2.hi]).cell? ⟨w3.heap.size, 5, none⟩ = _ := Joins.cell_of_block by5 5
      have cy6 : (w4.setRow (w2.heap.size) #[.int .i64 Z.1.n, .int .i64 Z.1.s.a, .int .i64 Z.1.s.b, .int .i64 Z.1.s.c, .int .i64 Z.1.k0.lo, .int .i64 Z.1.k0.hi, .int .i64 Z.1.k1.lo, .int .i64 Z.1.k1.hi, .int .i64 Z.1.k2.lo, .int .i64 Z.1.k2.hi]).cell? ⟨w3.heap.size, 6, none⟩ = _ := Joins.cell_of_block by5 6
      have cy7 : (w4.setRow (w2.heap.size) #[.int .i64 Z.1.n, .int .i64 Z.1.s.a, .int .i64 Z.1.s.b, .int .i64 Z.1.s.c, .int .i64 Z.1.k0.lo, .int .i64 Z.1.k0.hi, .int .i64 Z.1.k1.lo, .int .i64 Z.1.k1.hi, .int .i64 Z.1.k2.lo, .int .i64 Z.1.k2.hi]).cell? ⟨w3.heap.size, 7, none⟩ = _ := Joins.cell_of_block by5 7
      have cy8 : (w4.setRow (w2.heap.size) #[.int .i64 Z.1.n, .int .i64 Z.1.s.a, .int .i64 Z.1.s.b, .int .i64 Z.1.s.c, .int .i64 Z.1.k0.lo, .int .i64 Z.1.k0.hi, .int .i64 Z.1.k1.lo, .int .i64 Z.1.k1.hi, .int .i64 Z.1.k2.lo, .int .i64 Z.1.k2.hi]).cell? ⟨w3.heap.size, 8, none⟩ = _ := Joins.cell_of_block by5 8
      have cy9 : (w4.setRow (w2.heap.size) #[.int .i64 Z.1.n, .int .i64 Z.1.s.a, .int .i64 Z.1.s.b, .int .i64 Z.1.s.c, .int .i64 Z.1.k0.lo, .int .i64 Z.1.k0.hi, .int .i64 Z.1.k1.lo, .int .i64 Z.1.k1.hi, .int .i64 Z.1.k2.lo, .int .i64 Z.1.k2.hi]).cell? ⟨w3.heap.size, 9, none⟩ = _ := Joins.cell_of_block by5 9
      go_wp2_with (refine wpList_store_rowTo rfl 38 _ _ rfl rfl (w2.heap.size) #[.int .i64 Z.1.n, .int .i64 Z.1.s.a, .int .i64 Z.1.s.b, .int .i64 Z.1.s.c, .int .i64 Z.1.k0.lo, .int .i64 Z.1.k0.hi, .int .i64 Z.1.k1.lo, .int .i64 Z.1.k1.hi, .int .i64 Z.1.k2.lo, .int .i64 Z.1.k2.hi] rfl rfl 38 _ bx4 (by kernel_rfl) rfl (by kernel_rfl) ?_; generalize (w4.setRow (w2.heap.size) #[.int .i64 Z.1.n, .int .i64 Z.1.s.a, .int .i64 Z.1.s.b, .int .i64 Z.1.s.c, .int .i64 Z.1.k0.lo, .int .i64 Z.1.k0.hi, .int .i64 Z.1.k1.lo, .int .i64 Z.1.k1.hi, .int .i64 Z.1.k2.lo, .int .i64 Z.1.k2.hi]) = w5 at *)
      clear bx4
      refine (P4.out _).mono ?_
      rintro e w6 ⟨he, hb6⟩
      unfold btV at he
      subst he
      have hs6 := hb6.size
      have hF6 : Below w5.heap.size w5 w6 := hb6
      have hB6 := below_then hB5 hF6
      have zb6 : w.heap.size < w6.heap.size := by omega
      have bb6 := (hF6.block (w.heap.size) zb5).trans bb5
      have zo6 : w.heap.size + 1 < w6.heap.size := by omega
      have bo6 := (hF6.block (w.heap.size + 1) zo5).trans bo5
      have zu6 : w.heap.size + 1 + 1 < w6.heap.size := by omega
      have bu6 := (hF6.block (w.heap.size + 1 + 1) zu5).trans bu5
      have zx6 : w2.heap.size < w6.heap.size := by omega
      have bx6 := (hF6.block (w2.heap.size) zx5).trans bx5
      have zy6 : w3.heap.size < w6.heap.size := by omega
      have by6 := (hF6.block (w3.heap.size) zy5).trans by5
      clear hb6 hF6 hB5 hs5 zb5 bb5 zo5 bo5 zu5 bu5 zx5 bx5 zy5 by5 co0 co1 co2 cy0 cy1 cy2 cy3 cy4 cy5 cy6 cy7 cy8 cy9
      have hs7 : (w6.setRow (w3.heap.size) #[.int .i64 Z.1.n, .int .i64 Z.1.s.a, .int .i64 Z.1.s.b, .int .i64 Z.1.s.c, .int .i64 Z.1.k0.lo, .int .i64 Z.1.k0.hi, .int .i64 Z.1.k1.lo, .int .i64 Z.1.k1.hi, .int .i64 Z.1.k2.lo, .int .i64 Z.1.k2.hi]).heap.size = w6.heap.size := size_setRow _ _ _
      have hB7 := below_setRow hB6 (show w.heap.size ≤ w3.heap.size by omega) #[.int .i64 Z.1.n, .int .i64 Z.1.s.a, .int .i64 Z.1.s.b, .int .i64 Z.1.s.c, .int .i64 Z.1.k0.lo, .int .i64 Z.1.k0.hi, .int .i64 Z.1.k1.lo, .int .i64 Z.1.k1.hi, .int .i64 Z.1.k2.lo, .int .i64 Z.1.k2.hi]
      have zb7 : w.heap.size < (w6.setRow (w3.heap.size) #[.int .i64 Z.1.n, .int .i64 Z.1.s.a, .int .i64 Z.1.s.b, .int .i64 Z.1.s.c, .int .i64 Z.1.k0.lo, .int .i64 Z.1.k0.hi, .int .i64 Z.1.k1.lo, .int .i64 Z.1.k1.hi, .int .i64 Z.1.k2.lo, .int .i64 Z.1.k2.hi]).heap.size := by omega
      have bb7 := (setRow_other w6 (w3.heap.size) (w.heap.size) #[.int .i64 Z.1.n, .int .i64 Z.1.s.a, .int .i64 Z.1.s.b, .int .i64 Z.1.s.c, .int .i64 Z.1.k0.lo, .int .i64 Z.1.k0.hi, .int .i64 Z.1.k1.lo, .int .i64 Z.1.k1.hi, .int .i64 Z.1.k2.lo, .int .i64 Z.1.k2.hi] (by omega)).trans bb6
      have zo7 : w.heap.size + 1 < (w6.setRow (w3.heap.size) #[.int .i64 Z.1.n, .int .i64 Z.1.s.a, .int .i64 Z.1.s.b, .int .i64 Z.1.s.c, .int .i64 Z.1.k0.lo, .int .i64 Z.1.k0.hi, .int .i64 Z.1.k1.lo, .int .i64 Z.1.k1.hi, .int .i64 Z.1.k2.lo, .int .i64 Z.1.k2.hi]).heap.size := by omega
      have bo7 := (setRow_other w6 (w3.heap.size) (w.heap.size + 1) #[.int .i64 Z.1.n, .int .i64 Z.1.s.a, .int .i64 Z.1.s.b, .int .i64 Z.1.s.c, .int .i64 Z.1.k0.lo, .int .i64 Z.1.k0.hi, .int .i64 Z.1.k1.lo, .int .i64 Z.1.k1.hi, .int .i64 Z.1.k2.lo, .int .i64 Z.1.k2.hi] (by omega)).trans bo6
      have zu7 : w.heap.size + 1 + 1 < (w6.setRow (w3.heap.size) #[.int .i64 Z.1.n, .int .i64 Z.1.s.a, .int .i64 Z.1.s.b, .int .i64 Z.1.s.c, .int .i64 Z.1.k0.lo, .int .i64 Z.1.k0.hi, .int .i64 Z.1.k1.lo, .int .i64 Z.1.k1.hi, .int .i64 Z.1.k2.lo, .int .i64 Z.1.k2.hi]).heap.size := by omega
      have bu7 := (setRow_other w6 (w3.heap.size) (w.heap.size + 1 + 1) #[.int .i64 Z.1.n, .int .i64 Z.1.s.a, .int .i64 Z.1.s.b, .int .i64 Z.1.s.c, .int .i64 Z.1.k0.lo, .int .i64 Z.1.k0.hi, .int .i64 Z.1.k1.lo, .int .i64 Z.1.k1.hi, .int .i64 Z.1.k2.lo, .int .i64 Z.1.k2.hi] (by omega)).trans bu6
      have zx7 : w2.heap.size < (w6.setRow (w3.heap.size) #[.int .i64 Z.1.n, .int .i64 Z.1.s.a, .int .i64 Z.1.s.b, .int .i64 Z.1.s.c, .int .i64 Z.1.k0.lo, .int .i64 Z.1.k0.hi, .int .i64 Z.1.k1.lo, .int .i64 Z.1.k1.hi, .int .i64 Z.1.k2.lo, .int .i64 Z.1.k2.hi]).heap.size := by omega
      have bx7 := (setRow_other w6 (w3.heap.size) (w2.heap.size) #[.int .i64 Z.1.n, .int .i64 Z.1.s.a, .int .i64 Z.1.s.b, .int .i64 Z.1.s.c, .int .i64 Z.1.k0.lo, .int .i64 Z.1.k0.hi, .int .i64 Z.1.k1.lo, .int .i64 Z.1.k1.hi, .int .i64 Z.1.k2.lo, .int .i64 Z.1.k2.hi] (by omega)).trans bx6
      have zy7 : w3.heap.size < (w6.setRow (w3.heap.size) #[.int .i64 Z.1.n, .int .i64 Z.1.s.a, .int .i64 Z.1.s.b, .int .i64 Z.1.s.c, .int .i64 Z.1.k0.lo, .int .i64 Z.1.k0.hi, .int .i64 Z.1.k1.lo, .int .i64 Z.1.k1.hi, .int .i64 Z.1.k2.lo, .int .i64 Z.1.k2.hi]).heap.size := by omega
      have by7 := setRow_heap w6 (w3.heap.size) _ #[.int .i64 Z.1.n, .int .i64 Z.1.s.a, .int .i64 Z.1.s.b, .int .i64 Z.1.s.c, .int .i64 Z.1.k0.lo, .int .i64 Z.1.k0.hi, .int .i64 Z.1.k1.lo, .int .i64 Z.1.k1.hi, .int .i64 Z.1.k2.lo, .int .i64 Z.1.k2.hi] _ _ by6
      clear zb6 bb6 zo6 bo6 zu6 bu6 zx6 bx6 zy6 hB6
      have cb0 : (w6.setRow (w3.heap.size) #[.int .i64 Z.1.n, .int .i64 Z.1.s.a, .int .i64 Z.1.s.b, .int .i64 Z.1.s.c, .int .i64 Z.1.k0.lo, .int .i64 Z.1.k0.hi, .int .i64 Z.1.k1.lo, .int .i64 Z.1.k1.hi, .int .i64 Z.1.k2.lo, .int .i64 Z.1.k2.hi]).cell? ⟨w.heap.size, 0, none⟩ = _ := Joins.cell_of_block bb7 0
      have cb1 : (w6.setRow (w3.heap.size) #[.int .i64 Z.1.n, .int .i64 Z.1.s.a, .int .i64 Z.1.s.b, .int .i64 Z.1.s.c, .int .i64 Z.1.k0.lo, .int .i64 Z.1.k0.hi, .int .i64 Z.1.k1.lo, .int .i64 Z.1.k1.hi, .int .i64 Z.1.k2.lo, .int .i64 Z.1.k2.hi]).cell? ⟨w.heap.size, 1, none⟩ = _ := Joins.cell_of_block bb7 1
      have cb2 : (w6.setRow (w3.heap.size) #[.int .i64 Z.1.n, .int .i64 Z.1.s.a, .int .i64 Z.1.s.b, .int .i64 Z.1.s.c, .int .i64 Z.1.k0.lo, .int .i64 Z.1.k0.hi, .int .i64 Z.1.k1.lo, .int .i64 Z.1.k1.hi, .int .i64 Z.1.k2.lo, .int .i64 Z.1.k2.hi]).cell? ⟨w.heap.size, 2, none⟩ = _ := Joins.cell_of_block bb7 2
      have cb3 : (w6.setRow (w3.heap.size) #[.int .i64 Z.1.n, .int .i64 Z.1.s.a, .int .i64 Z.1.s.b, .int .i64 Z.1.s.c, .int .i64 Z.1.k0.lo, .int .i64 Z.1.k0.hi, .int .i64 Z.1.k1.lo, .int .i64 Z.1.k1.hi, .int .i64 Z.1.k2.lo, .int .i64 Z.1.k2.hi]).cell? ⟨w.heap.size, 3, none⟩ = _ := Joins.cell_of_block bb7 3
      have cb4 : (w6.setRow (w3.heap.size) #[.int .i64 Z.1.n, .int .i64 Z.1.s.a, .int .i64 Z.1.s.b, .int .i64 Z.1.s.c, .int .i64 Z.1.k0.lo, .int .i64 Z.1.k0.hi, .int .i64 Z.1.k1.lo, .int .i64 Z.1.k1.hi, .int .i64 Z.1.k2.lo, .int .i64 Z.1.k2.hi]).cell? ⟨w.heap.size, 4, none⟩ = _ := Joins.cell_of_block bb7 4
      have cb5 : (w6.setRow (w3.heap.size) #[.int .i64 Z.1.n, .int .i64 Z.1.s.a, .int .i64 Z.1.s.b, .int .i64 Z.1.s.c, .int .i64 Z.1.k0.lo, .int .i64 Z.1.k0.hi, .int .i64 Z.1.k1.lo, .int .i64 Z.1.k1.hi, .int .i64 Z.1.k2.lo, .int .i64 Z.1.k2.hi]).cell? ⟨w.heap.size, 5, none⟩ = _ := Joins.cell_of_block bb7 5
      have cb6 : (w6.setRow (w3.heap.size) #[.int .i64 Z.1.n, .int .i64 Z.1.s.a, .int .i64 Z.1.s.b, .int .i64 Z.1.s.c, .int .i64 Z.1.k0.lo, .int .i64 Z.1.k0.hi, .int .i64 Z.1.k1.lo, .int .i64 Z.1.k1.hi, .int .i64 Z.1.k2.lo, .int .i64 Z.1.k2.hi]).cell? ⟨w.heap.size, 6, none⟩ = _ := Joins.cell_of_block bb7 6
      have cb7 : (w6.setRow (w3.heap.size) #[.int .i64 Z.1.n, .int .i64 Z.1.s.a, .int .i64 Z.1.s.b, .int .i64 Z.1.s.c, .int .i64 Z.1.k0.lo, .int .i64 Z.1.k0.hi, .int .i64 Z.1.k1.lo, .int .i64 Z.1.k1.hi, .int .i64 Z.1.k2.lo, .int .i64 Z.1.k2.hi]).cell? ⟨w.heap.size, 7, none⟩ = _ := Joins.cell_of_block bb7 7
      have cb8 : (w6.setRow (w3.heap.size) #[.int .i64 Z.1.n, .int .i64 Z.1.s.a, .int .i64 Z.1.s.b, .int .i64 Z.1.s.c, .int .i64 Z.1.k0.lo, .int .i64 Z.1.k0.hi, .int .i64 Z.1.k1.lo, .int .i64 Z.1.k1.hi, .int .i64 Z.1.k2.lo, .int .i64 Z.1.k2.hi]).cell? ⟨w.heap.size, 8, none⟩ = _ := Joins.cell_of_block bb7 8
      have cb9 : (w6.setRow (w3.heap.size) #[.int .i64 Z.1.n, .int .i64 Z.1.s.a, .int .i64 Z.1.s.b, .int .i64 Z.1.s.c, .int .i64 Z.1.k0.lo, .int .i64 Z.1.k0.hi, .int .i64 Z.1.k1.lo, .int .i64 Z.1.k1.hi, .int .i64 Z.1.k2.lo, .int .i64 Z.1.k2.hi]).cell? ⟨w.heap.size, 9, none⟩ = _ := Joins.cell_of_block bb7 9
      have co0 : (w6.setRow (w3.heap.size) #[.int .i64 Z.1.n, .int .i64 Z.1.s.a, .int .i64 Z.1.s.b, .int .i64 Z.1.s.c, .int .i64 Z.1.k0.lo, .int .i64 Z.1.k0.hi, .int .i64 Z.1.k1.lo, .int .i64 Z.1.k1.hi, .int .i64 Z.1.k2.lo, .int .i64 Z.1.k2.hi]).cell? ⟨w.heap.size + 1, 0, none⟩ = _ := Joins.cell_of_block bo7 0
      have co1 : (w6.setRow (w3.heap.size) #[.int .i64 Z.1.n, .int .i64 Z.1.s.a, .int .i64 Z.1.s.b, .int .i64 Z.1.s.c, .int .i64 Z.1.k0.lo, .int .i64 Z.1.k0.hi, .int .i64 Z.1.k1.lo, .int .i64 Z.1.k1.hi, .int .i64 Z.1.k2.lo, .int .i64 Z.1.k2.hi]).cell? ⟨w.heap.size + 1, 1, none⟩ = _ := Joins.cell_of_block bo7 1
      have co2 : (w6.setRow (w3.heap.size) #[.int .i64 Z.1.n, .int .i64 Z.1.s.a, .int .i64 Z.1.s.b, .int .i64 Z.1.s.c, .int .i64 Z.1.k0.lo, .int .i64 Z.1.k0.hi, .int .i64 Z.1.k1.lo, .int .i64 Z.1.k1.hi, .int .i64 Z.1.k2.lo, .int .i64 Z.1.k2.hi]).cell? ⟨w.heap.size + 1, 2, none⟩ = _ := Joins.cell_of_block bo7 2
      have cu0 : (w6.setRow (w3.heap.size) #[.int .i64 Z.1.n, .int .i64 Z.1.s.a, .int .i64 Z.1.s.b, .int .i64 Z.1.s.c, .int .i64 Z.1.k0.lo, .int .i64 Z.1.k0.hi, .int .i64 Z.1.k1.lo, .int .i64 Z.1.k1.hi, .int .i64 Z.1.k2.lo, .int .i64 Z.1.k2.hi]).cell? ⟨w.heap.size + 1 + 1, 0, none⟩ = _ := Joins.cell_of_block bu7 0
      have cu1 : (w6.setRow (w3.heap.size) #[.int .i64 Z.1.n, .int .i64 Z.1.s.a, .int .i64 Z.1.s.b, .int .i64 Z.1.s.c, .int .i64 Z.1.k0.lo, .int .i64 Z.1.k0.hi, .int .i64 Z.1.k1.lo, .int .i64 Z.1.k1.hi, .int .i64 Z.1.k2.lo, .int .i64 Z.1.k2.hi]).cell? ⟨w.heap.size + 1 + 1, 1, none⟩ = _ := Joins.cell_of_block bu7 1
      have cu2 : (w6.setRow (w3.heap.size) #[.int .i64 Z.1.n, .int .i64 Z.1.s.a, .int .i64 Z.1.s.b, .int .i64 Z.1.s.c, .int .i64 Z.1.k0.lo, .int .i64 Z.1.k0.hi, .int .i64 Z.1.k1.lo, .int .i64 Z.1.k1.hi, .int .i64 Z.1.k2.lo, .int .i64 Z.1.k2.hi]).cell? ⟨w.heap.size + 1 + 1, 2, none⟩ = _ := Joins.cell_of_block bu7 2
      go_wp2_with (refine wpList_store_rowTo rfl 38 _ _ rfl rfl (w3.heap.size) #[.int .i64 Z.1.n, .int .i64 Z.1.s.a, .int .i64 Z.1.s.b, .int .i64 Z.1.s.c, .int .i64 Z.1.k0.lo, .int .i64 Z.1.k0.hi, .int .i64 Z.1.k1.lo, .int .i64 Z.1.k1.hi, .int .i64 Z.1.k2.lo, .int .i64 Z.1.k2.hi] rfl rfl 38 _ by6 (by kernel_rfl) rfl (by kernel_rfl) ?_; generalize (w6.setRow (w3.heap.size) #[.int .i64 Z.1.n, .int .i64 Z.1.s.a, .int .i64 Z.1.s.b, .int .i64 Z.1.s.c, .int .i64 Z.1.k0.lo, .int .i64 Z.1.k0.hi, .int .i64 Z.1.k1.lo, .int .i64 Z.1.k1.hi, .int .i64 Z.1.k2.lo, .int .i64 Z.1.k2.hi]) = w7 at *)
      clear by6
      refine (P5.out _).mono ?_
      rintro e w8 ⟨he, hb8⟩
      unfold btV at he
      subst he
      have hs8 := hb8.size
      have hF8 : Below w7.heap.size w7 w8 := hb8
      have hB8 := below_then hB7 hF8
      have zb8 : w.heap.size < w8.heap.size := by omega
      have bb8 := (hF8.block (w.heap.size) zb7).trans bb7
      have zo8 : w.heap.size + 1 < w8.heap.size := by omega
      have bo8 := (hF8.block (w.heap.size + 1) zo7).trans bo7
      have zu8 : w.heap.size + 1 + 1 < w8.heap.size := by omega
      have bu8 := (hF8.block (w.heap.size + 1 + 1) zu7).trans bu7
      have zx8 : w2.heap.size < w8.heap.size := by omega
      have bx8 := (hF8.block (w2.heap.size) zx7).trans bx7
      have zy8 : w3.heap.size < w8.heap.size := by omega
      have by8 := (hF8.block (w3.heap.size) zy7).trans by7
      clear hb8 hF8 hB7 hs7 zb7 bb7 zo7 bo7 zu7 bu7 zx7 bx7 zy7 by7 cb0 cb1 cb2 cb3 cb4 cb5 cb6 cb7 cb8 cb9 co0 co1 co2 cu0 cu1 cu2
      by_cases hz : Z.2 = 0
      · have d4 : (Z.2 != 0) = false := by simpa using hz
        have C0 : moreE (addB b one) two = 0 := by rw [← M3.out, ← HZ.out]; exact hz
        have C1 : checkB Z.1 = 0 := by rw [HZ.out, more_good C0]; exact (more_ok C0).2.2.2
        have nn := right_n (check_ok C1).1
        obtain ⟨nn1, nn2, nn3, nn4, nn5, nn6, nn7, nn8⟩ := nn
        rw [nn7] at nn8
        have p6 := fun w => S.Weights Z.1 sort w
        have p8 := fun w => S.Wholes Z.1 w
        rw [C1, if_pos rfl] at p8
        generalize (if kindI Z.1 sort = 0 then weightsL Z.1 sort else []) = WL at p6
        generalize kindI Z.1 sort = K at p6
        have d5 : (K != K) = false := by simp
        have P6 := Lib.hid p6
        clear p6 C0 nn3 nn7
        by_cases hs : Z.1.s.a + Z.1.s.b + Z.1.s.c < Z.1.n
        · generalize wholesL Z.1 = L at p8
          clear C1
          have d6 : decide (Z.1.s.a + Z.1.s.b + Z.1.s.c < Z.1.n) = true := decide_eq_true hs
          have P8 := Lib.hid p8
          clear p8
          have cx0 := Joins.cell_of_block bx8 0
          have cx1 := Joins.cell_of_block bx8 1
          have cx2 := Joins.cell_of_block bx8 2
          have cx3 := Joins.cell_of_block bx8 3
          have cx4 := Joins.cell_of_block bx8 4
          have cx5 := Joins.cell_of_block bx8 5
          have cx6 := Joins.cell_of_block bx8 6
          have cx7 := Joins.cell_of_block bx8 7
          have cx8 := Joins.cell_of_block bx8 8
          have cx9 := Joins.cell_of_block bx8 9
          have cy0 := Joins.cell_of_block by8 0
          have cy1 := Joins.cell_of_block by8 1
          have cy2 := Joins.cell_of_block by8 2
          have cy3 := Joins.cell_of_block by8 3
          have cy4 := Joins.cell_of_block by8 4
          have cy5 := Joins.cell_of_block by8 5
          have cy6 := Joins.cell_of_block by8 6
          have cy7 := Joins.cell_of_block by8 7
          have cy8 := Joins.cell_of_block by8 8
          have cy9 := Joins.cell_of_block by8 9
          go_wp2_with fail
          refine (P6.out _).mono ?_
          rintro e w9 ⟨huu, he, hu9, hb9⟩
          obtain ⟨huA, huC, rfl⟩ := hu9.form
          subst he
          have hs9 := hb9.size
          simp only [World.size_alloc] at hs9
          have hF9 : Below w8.heap.size w8 w9 := (below_then (below_alloc _ _) hb9)
          have hB9 := below_then hB8 hF9
          have lbv := zb8
          have zb9 : w.heap.size < w9.heap.size := by omega
          have bb9 := (hF9.block (w.heap.size) zb8).trans bb8
          have lov := zo8
          have zo9 : w.heap.size + 1 < w9.heap.size := by omega
          have bo9 := (hF9.block (w.heap.size + 1) zo8).trans bo8
          have luv := zu8
          have zu9 : w.heap.size + 1 + 1 < w9.heap.size := by omega
          have bu9 := (hF9.block (w.heap.size + 1 + 1) zu8).trans bu8
          have lxv := zx8
          have zx9 : w2.heap.size < w9.heap.size := by omega
          have bx9 := (hF9.block (w2.heap.size) zx8).trans bx8
          have lyv := zy8
          have zy9 : w3.heap.size < w9.heap.size := by omega
          have by9 := (hF9.block (w3.heap.size) zy8).trans by8
          have zv9 : w8.heap.size < w9.heap.size := by omega
          have bv9 : w9.heap[w8.heap.size]? = some (.cells #[.int .i64 Z.1.n, .int .i64 Z.1.s.a, .int .i64 Z.1.s.b, .int .i64 Z.1.s.c, .int .i64 Z.1.k0.lo, .int .i64 Z.1.k0.hi, .int .i64 Z.1.k1.lo, .int .i64 Z.1.k1.hi, .int .i64 Z.1.k2.lo, .int .i64 Z.1.k2.hi] 38) := (hb9.block (w8.heap.size) (by simp)).trans (alloc_at w8 (.cells #[.int .i64 Z.1.n, .int .i64 Z.1.s.a, .int .i64 Z.1.s.b, .int .i64 Z.1.s.c, .int .i64 Z.1.k0.lo, .int .i64 Z.1.k0.hi, .int .i64 Z.1.k1.lo, .int .i64 Z.1.k1.hi, .int .i64 Z.1.k2.lo, .int .i64 Z.1.k2.hi] 38) (by first | rfl | simp))
          clear hb9 hF9 hB8 hs8 zb8 bb8 zo8 bo8 zu8 bu8 zx8 bx8 zy8 by8 cx0 cx1 cx2 cx3 cx4 cx5 cx6 cx7 cx8 cx9 cy0 cy1 cy2 cy3 cy4 cy5 cy6 cy7 cy8 cy9
          have cv0 := Joins.cell_of_block bv9 0
          have cv1 := Joins.cell_of_block bv9 1
          have cv2 := Joins.cell_of_block bv9 2
          have cv3 := Joins.cell_of_block bv9 3
          have cv4 := Joins.cell_of_block bv9 4
          have cv5 := Joins.cell_of_block bv9 5
          have cv6 := Joins.cell_of_block bv9 6
          have cv7 := Joins.cell_of_block bv9 7
          have cv8 := Joins.cell_of_block bv9 8
          have cv9 := Joins.cell_of_block bv9 9
          go_wp2_with fail
          refine (P6.out _).mono ?_
          rintro e w10 ⟨hvu, he, hv10, hb10⟩
          obtain ⟨hvA, hvC, rfl⟩ := hv10.form
          subst he
          have hs10 := hb10.size
          have hF10 : Below w9.heap.size w9 w10 := hb10
          have hB10 := below_then hB9 hF10
          have zb10 : w.heap.size < w10.heap.size := by omega
          have bb10 := (hF10.block (w.heap.size) zb9).trans bb9
          have zo10 : w.heap.size + 1 < w10.heap.size := by omega
          have bo10 := (hF10.block (w.heap.size + 1) zo9).trans bo9
          have zu10 : w.heap.size + 1 + 1 < w10.heap.size := by omega
          have bu10 := (hF10.block (w.heap.size + 1 + 1) zu9).trans bu9
          have zx10 : w2.heap.size < w10.heap.size := by omega
          have bx10 := (hF10.block (w2.heap.size) zx9).trans bx9
          have zy10 : w3.heap.size < w10.heap.size := by omega
          have by10 := (hF10.block (w3.heap.size) zy9).trans by9
          have zv10 : w8.heap.size < w10.heap.size := by omega
          have bv10 := (hF10.block (w8.heap.size) zv9).trans bv9
          have hu10 := hu9.later hF10
          clear hb10 hF10 hB9 hs9 zb9 bb9 zo9 bo9 zu9 bu9 zx9 bx9 zy9 by9 zv9 bv9 hu9 cv0 cv1 cv2 cv3 cv4 cv5 cv6 cv7 cv8 cv9
          have cx0 := Joins.cell_of_block bx10 0
          have cx1 := Joins.cell_of_block bx10 1
          have cx2 := Joins.cell_of_block bx10 2
          have cx3 := Joins.cell_of_block bx10 3
          have cx4 := Joins.cell_of_block bx10 4
          have cx5 := Joins.cell_of_block bx10 5
          have cx6 := Joins.cell_of_block bx10 6
          have cx7 := Joins.cell_of_block bx10 7
          have cx8 := Joins.cell_of_block bx10 8
          have cx9 := Joins.cell_of_block bx10 9
          go_wp2_with fail
          refine (P8.out _).mono ?_
          rintro e w11 ⟨hku, he, hk11, hb11⟩
          obtain ⟨hkA, hkC, rfl⟩ := hk11.form
          subst he
          have hs11 := hb11.size
          have hF11 : Below w10.heap.size w10 w11 := hb11
          have hB11 := below_then hB10 hF11
          have zb11 : w.heap.size < w11.heap.size := by omega
          have bb11 := (hF11.block (w.heap.size) zb10).trans bb10
          have zo11 : w.heap.size + 1 < w11.heap.size := by omega
          have bo11 := (hF11.block (w.heap.size + 1) zo10).trans bo10
          have zu11 : w.heap.size + 1 + 1 < w11.heap.size := by omega
          have bu11 := (hF11.block (w.heap.size + 1 + 1) zu10).trans bu10
          have zx11 : w2.heap.size < w11.heap.size := by omega
          have bx11 := (hF11.block (w2.heap.size) zx10).trans bx10
          have zy11 : w3.heap.size < w11.heap.size := by omega
          have by11 := (hF11.block (w3.heap.size) zy10).trans by10
          have zv11 : w8.heap.size < w11.heap.size := by omega
          have bv11 := (hF11.block (w8.heap.size) zv10).trans bv10
          have hu11 := hu10.later hF11
          have hv11 := hv10.later hF11
          clear hb11 hF11 hB10 hs10 zb10 bb10 zo10 bo10 zu10 bu10 zx10 bx10 zy10 by10 zv10 bv10 hu10 hv10 cx0 cx1 cx2 cx3 cx4 cx5 cx6 cx7 cx8 cx9
          go_wp2_with fail
          refine (sameI_t hu11 hv11 (sameI_r _)).mono ?_
          rintro e w12 ⟨he, hb12⟩
          subst he
          have hs12 := hb12.size
          have hF12 : Below w11.heap.size w11 w12 := hb12
          have hB12 := below_then hB11 hF12
          have zb12 : w.heap.size < w12.heap.size := by omega
          have bb12 := (hF12.block (w.heap.size) zb11).trans bb11
          have zo12 : w.heap.size + 1 < w12.heap.size := by omega
          have bo12 := (hF12.block (w.heap.size + 1) zo11).trans bo11
          have zu12 : w.heap.size + 1 + 1 < w12.heap.size := by omega
          have bu12 := (hF12.block (w.heap.size + 1 + 1) zu11).trans bu11
          have zx12 : w2.heap.size < w12.heap.size := by omega
          have bx12 := (hF12.block (w2.heap.size) zx11).trans bx11
          have zy12 : w3.heap.size < w12.heap.size := by omega
          have by12 := (hF12.block (w3.heap.size) zy11).trans by11
          have zv12 : w8.heap.size < w12.heap.size := by omega
          have bv12 := (hF12.block (w8.heap.size) zv11).trans bv11
          have hu12 := hu11.later hF12
          have hv12 := hv11.later hF12
          have hk12 := hk11.later hF12
          clear hb12 hF12 hB11 hs11 zb11 bb11 zo11 bo11 zu11 bu11 zx11 bx11 zy11 by11 zv11 bv11 hu11 hv11 hk11
          have cx0 := Joins.cell_of_block bx12 0
          have cx1 := Joins.cell_of_block bx12 1
          have cx2 := Joins.cell_of_block bx12 2
          have cx3 := Joins.cell_of_block bx12 3
          have cx4 := Joins.cell_of_block bx12 4
          have cx5 := Joins.cell_of_block bx12 5
          have cx6 := Joins.cell_of_block bx12 6
          have cx7 := Joins.cell_of_block bx12 7
          have cx8 := Joins.cell_of_block bx12 8
          have cx9 := Joins.cell_of_block bx12 9
          go_wp2_with fail
          refine wp_region_grown (by kernel_rfl) (by kernel_rfl) fun hcg => ?_
          repeat (go_big_quiet_step (fail))
          refine wpQuiet_nil ?_
          intro _ hw'
          obtain ⟨g, hw''⟩ := hw'
          subst hw''
          have hb13 := g.b
          clear hcg
          generalize g.val = w13 at *
          clear g
          have hs13 := hb13.size
          have hF13 : Below w12.heap.size w12 w13 := hb13
          have hB13 := below_then hB12 hF13
          have zb13 : w.heap.size < w13.heap.size := by omega
          have bb13 := (hF13.block (w.heap.size) zb12).trans bb12
          have zo13 : w.heap.size + 1 < w13.heap.size := by omega
          have bo13 := (hF13.block (w.heap.size + 1) zo12).trans bo12
          have zu13 : w.heap.size + 1 + 1 < w13.heap.size := by omega
          have bu13 := (hF13.block (w.heap.size + 1 + 1) zu12).trans bu12
          have zx13 : w2.heap.size < w13.heap.size := by omega
          have bx13 := (hF13.block (w2.heap.size) zx12).trans bx12
          have zy13 : w3.heap.size < w13.heap.size := by omega
          have by13 := (hF13.block (w3.heap.size) zy12).trans by12
          have zv13 : w8.heap.size < w13.heap.size := by omega
          have bv13 := (hF13.block (w8.heap.size) zv12).trans bv12
          have hu13 := hu12.later hF13
          have hv13 := hv12.later hF13
          have hk13 := hk12.later hF13
          clear hb13 hF13 hB12 hs12 zb12 bb12 zo12 bo12 zu12 bu12 zx12 bx12 zy12 by12 zv12 bv12 hu12 hv12 hk12 cx0 cx1 cx2 cx3 cx4 cx5 cx6 cx7 cx8 cx9
          go_wp2_with fail
          go_ret
          exact ⟨rfl, hB13⟩
        · rw [wholes_seen C1 (by omega)] at p8
          clear C1
          have d6 : decide (Z.1.s.a + Z.1.s.b + Z.1.s.c < Z.1.n) = false := decide_eq_false hs
          have P8 := Lib.hid p8
          clear p8
          have cx0 := Joins.cell_of_block bx8 0
          have cx1 := Joins.cell_of_block bx8 1
          have cx2 := Joins.cell_of_block bx8 2
          have cx3 := Joins.cell_of_block bx8 3
          have cx4 := Joins.cell_of_block bx8 4
          have cx5 := Joins.cell_of_block bx8 5
          have cx6 := Joins.cell_of_block bx8 6
          have cx7 := Joins.cell_of_block bx8 7
          have cx8 := Joins.cell_of_block bx8 8
          have cx9 := Joins.cell_of_block bx8 9
          have cy0 := Joins.cell_of_block by8 0
          have cy1 := Joins.cell_of_block by8 1
          have cy2 := Joins.cell_of_block by8 2
          have cy3 := Joins.cell_of_block by8 3
          have cy4 := Joins.cell_of_block by8 4
          have cy5 := Joins.cell_of_block by8 5
          have cy6 := Joins.cell_of_block by8 6
          have cy7 := Joins.cell_of_block by8 7
          have cy8 := Joins.cell_of_block by8 8
          have cy9 := Joins.cell_of_block by8 9
          go_wp2_with fail
          refine (P6.out _).mono ?_
          rintro e w9 ⟨huu, he, hu9, hb9⟩
          obtain ⟨huA, huC, rfl⟩ := hu9.form
          subst he
          have hs9 := hb9.size
          simp only [World.size_alloc] at hs9
          have hF9 : Below w8.heap.size w8 w9 := (below_then (below_alloc _ _) hb9)
          have hB9 := below_then hB8 hF9
          have lbv := zb8
          have zb9 : w.heap.size < w9.heap.size := by omega
          have bb9 := (hF9.block (w.heap.size) zb8).trans bb8
          have lov := zo8
          have zo9 : w.heap.size + 1 < w9.heap.size := by omega
          have bo9 := (hF9.block (w.heap.size + 1) zo8).trans bo8
          have luv := zu8
          have zu9 : w.heap.size + 1 + 1 < w9.heap.size := by omega
          have bu9 := (hF9.block (w.heap.size + 1 + 1) zu8).trans bu8
          have lxv := zx8
          have zx9 : w2.heap.size < w9.heap.size := by omega
          have bx9 := (hF9.block (w2.heap.size) zx8).trans bx8
          have lyv := zy8
          have zy9 : w3.heap.size < w9.heap.size := by omega
          have by9 := (hF9.block (w3.heap.size) zy8).trans by8
          have zv9 : w8.heap.size < w9.heap.size := by omega
          have bv9 : w9.heap[w8.heap.size]? = some (.cells #[.int .i64 Z.1.n, .int .i64 Z.1.s.a, .int .i64 Z.1.s.b, .int .i64 Z.1.s.c, .int .i64 Z.1.k0.lo, .int .i64 Z.1.k0.hi, .int .i64 Z.1.k1.lo, .int .i64 Z.1.k1.hi, .int .i64 Z.1.k2.lo, .int .i64 Z.1.k2.hi] 38) := (hb9.block (w8.heap.size) (by simp)).trans (alloc_at w8 (.cells #[.int .i64 Z.1.n, .int .i64 Z.1.s.a, .int .i64 Z.1.s.b, .int .i64 Z.1.s.c, .int .i64 Z.1.k0.lo, .int .i64 Z.1.k0.hi, .int .i64 Z.1.k1.lo, .int .i64 Z.1.k1.hi, .int .i64 Z.1.k2.lo, .int .i64 Z.1.k2.hi] 38) (by first | rfl | simp))
          clear hb9 hF9 hB8 hs8 zb8 bb8 zo8 bo8 zu8 bu8 zx8 bx8 zy8 by8 cx0 cx1 cx2 cx3 cx4 cx5 cx6 cx7 cx8 cx9 cy0 cy1 cy2 cy3 cy4 cy5 cy6 cy7 cy8 cy9
          have cv0 := Joins.cell_of_block bv9 0
          have cv1 := Joins.cell_of_block bv9 1
          have cv2 := Joins.cell_of_block bv9 2
          have cv3 := Joins.cell_of_block bv9 3
          have cv4 := Joins.cell_of_block bv9 4
          have cv5 := Joins.cell_of_block bv9 5
          have cv6 := Joins.cell_of_block bv9 6
          have cv7 := Joins.cell_of_block bv9 7
          have cv8 := Joins.cell_of_block bv9 8
          have cv9 := Joins.cell_of_block bv9 9
          go_wp2_with fail
          refine (P6.out _).mono ?_
          rintro e w10 ⟨hvu, he, hv10, hb10⟩
          obtain ⟨hvA, hvC, rfl⟩ := hv10.form
          subst he
          have hs10 := hb10.size
          have hF10 : Below w9.heap.size w9 w10 := hb10
          have hB10 := below_then hB9 hF10
          have zb10 : w.heap.size < w10.heap.size := by omega
          have bb10 := (hF10.block (w.heap.size) zb9).trans bb9
          have zo10 : w.heap.size + 1 < w10.heap.size := by omega
          have bo10 := (hF10.block (w.heap.size + 1) zo9).trans bo9
          have zu10 : w.heap.size + 1 + 1 < w10.heap.size := by omega
          have bu10 := (hF10.block (w.heap.size + 1 + 1) zu9).trans bu9
          have zx10 : w2.heap.size < w10.heap.size := by omega
          have bx10 := (hF10.block (w2.heap.size) zx9).trans bx9
          have zy10 : w3.heap.size < w10.heap.size := by omega
          have by10 := (hF10.block (w3.heap.size) zy9).trans by9
          have zv10 : w8.heap.size < w10.heap.size := by omega
          have bv10 := (hF10.block (w8.heap.size) zv9).trans bv9
          have hu10 := hu9.later hF10
          clear hb10 hF10 hB9 hs9 zb9 bb9 zo9 bo9 zu9 bu9 zx9 bx9 zy9 by9 zv9 bv9 hu9 cv0 cv1 cv2 cv3 cv4 cv5 cv6 cv7 cv8 cv9
          have cx0 := Joins.cell_of_block bx10 0
          have cx1 := Joins.cell_of_block bx10 1
          have cx2 := Joins.cell_of_block bx10 2
          have cx3 := Joins.cell_of_block bx10 3
          have cx4 := Joins.cell_of_block bx10 4
          have cx5 := Joins.cell_of_block bx10 5
          have cx6 := Joins.cell_of_block bx10 6
          have cx7 := Joins.cell_of_block bx10 7
          have cx8 := Joins.cell_of_block bx10 8
          have cx9 := Joins.cell_of_block bx10 9
          go_wp2_with fail
          refine (P8.out _).mono ?_
          rintro e w11 ⟨hku, he, hk11, hb11⟩
          obtain ⟨hkA, hkC, rfl⟩ := hk11.form
          subst he
          have hs11 := hb11.size
          have hF11 : Below w10.heap.size w10 w11 := hb11
          have hB11 := below_then hB10 hF11
          have zb11 : w.heap.size < w11.heap.size := by omega
          have bb11 := (hF11.block (w.heap.size) zb10).trans bb10
          have zo11 : w.heap.size + 1 < w11.heap.size := by omega
          have bo11 := (hF11.block (w.heap.size + 1) zo10).trans bo10
          have zu11 : w.heap.size + 1 + 1 < w11.heap.size := by omega
          have bu11 := (hF11.block (w.heap.size + 1 + 1) zu10).trans bu10
          have zx11 : w2.heap.size < w11.heap.size := by omega
          have bx11 := (hF11.block (w2.heap.size) zx10).trans bx10
          have zy11 : w3.heap.size < w11.heap.size := by omega
          have by11 := (hF11.block (w3.heap.size) zy10).trans by10
          have zv11 : w8.heap.size < w11.heap.size := by omega
          have bv11 := (hF11.block (w8.heap.size) zv10).trans bv10
          have hu11 := hu10.later hF11
          have hv11 := hv10.later hF11
          clear hb11 hF11 hB10 hs10 zb10 bb10 zo10 bo10 zu10 bu10 zx10 bx10 zy10 by10 zv10 bv10 hu10 hv10 cx0 cx1 cx2 cx3 cx4 cx5 cx6 cx7 cx8 cx9
          go_wp2_with fail
          refine (sameI_t hu11 hv11 (sameI_r _)).mono ?_
          rintro e w12 ⟨he, hb12⟩
          subst he
          have hs12 := hb12.size
          have hF12 : Below w11.heap.size w11 w12 := hb12
          have hB12 := below_then hB11 hF12
          have zb12 : w.heap.size < w12.heap.size := by omega
          have bb12 := (hF12.block (w.heap.size) zb11).trans bb11
          have zo12 : w.heap.size + 1 < w12.heap.size := by omega
          have bo12 := (hF12.block (w.heap.size + 1) zo11).trans bo11
          have zu12 : w.heap.size + 1 + 1 < w12.heap.size := by omega
          have bu12 := (hF12.block (w.heap.size + 1 + 1) zu11).trans bu11
          have zx12 : w2.heap.size < w12.heap.size := by omega
          have bx12 := (hF12.block (w2.heap.size) zx11).trans bx11
          have zy12 : w3.heap.size < w12.heap.size := by omega
          have by12 := (hF12.block (w3.heap.size) zy11).trans by11
          have zv12 : w8.heap.size < w12.heap.size := by omega
          have bv12 := (hF12.block (w8.heap.size) zv11).trans bv11
          have hu12 := hu11.later hF12
          have hv12 := hv11.later hF12
          have hk12 := hk11.later hF12
          clear hb12 hF12 hB11 hs11 zb11 bb11 zo11 bo11 zu11 bu11 zx11 bx11 zy11 by11 zv11 bv11 hu11 hv11 hk11
          obtain ⟨kA, kcap, hke, hk1, hk2, hk3⟩ := K3s.open_ hk12
          cases hke
          obtain ⟨kb, koff, kx, rfl, hkb, hkx, hkc0, hkc1, hkc2⟩ := hk3 0 (by simp)
          simp only [List.getElem?_cons_zero, Option.some.injEq] at hkx
          subst hkx
          simp only [Nat.zero_mul, Nat.add_zero] at hkc0 hkc1 hkc2
          clear hk3
          have cx0 := Joins.cell_of_block bx12 0
          have cx1 := Joins.cell_of_block bx12 1
          have cx2 := Joins.cell_of_block bx12 2
          have cx3 := Joins.cell_of_block bx12 3
          have cx4 := Joins.cell_of_block bx12 4
          have cx5 := Joins.cell_of_block bx12 5
          have cx6 := Joins.cell_of_block bx12 6
          have cx7 := Joins.cell_of_block bx12 7
          have cx8 := Joins.cell_of_block bx12 8
          have cx9 := Joins.cell_of_block bx12 9
          go_wp2_with fail
          refine wp_region_grown (by kernel_rfl) (by kernel_rfl) fun hcg => ?_
          repeat (go_big_quiet_step (fail))
          refine wpQuiet_nil ?_
          intro _ hw'
          obtain ⟨g, hw''⟩ := hw'
          subst hw''
          have hb13 := g.b
          clear hcg
          generalize g.val = w13 at *
          clear g
          have hs13 := hb13.size
          have hF13 : Below w12.heap.size w12 w13 := hb13
          have hB13 := below_then hB12 hF13
          have zb13 : w.heap.size < w13.heap.size := by omega
          have bb13 := (hF13.block (w.heap.size) zb12).trans bb12
          have zo13 : w.heap.size + 1 < w13.heap.size := by omega
          have bo13 := (hF13.block (w.heap.size + 1) zo12).trans bo12
          have zu13 : w.heap.size + 1 + 1 < w13.heap.size := by omega
          have bu13 := (hF13.block (w.heap.size + 1 + 1) zu12).trans bu12
          have zx13 : w2.heap.size < w13.heap.size := by omega
          have bx13 := (hF13.block (w2.heap.size) zx12).trans bx12
          have zy13 : w3.heap.size < w13.heap.size := by omega
          have by13 := (hF13.block (w3.heap.size) zy12).trans by12
          have zv13 : w8.heap.size < w13.heap.size := by omega
          have bv13 := (hF13.block (w8.heap.size) zv12).trans bv12
          have hu13 := hu12.later hF13
          have hv13 := hv12.later hF13
          have hk13 := hk12.later hF13
          clear hb13 hF13 hB12 hs12 zb12 bb12 zo12 bo12 zu12 bu12 zx12 bx12 zy12 by12 zv12 bv12 hu12 hv12 hk12 cx0 cx1 cx2 cx3 cx4 cx5 cx6 cx7 cx8 cx9
          go_wp2_with fail
          go_ret
          exact ⟨rfl, hB13⟩
      · have d4 : (Z.2 != 0) = true := by simpa using hz
        have cx0 := Joins.cell_of_block bx8 0
        have cx1 := Joins.cell_of_block bx8 1
        have cx2 := Joins.cell_of_block bx8 2
        have cx3 := Joins.cell_of_block bx8 3
        have cx4 := Joins.cell_of_block bx8 4
        have cx5 := Joins.cell_of_block bx8 5
        have cx6 := Joins.cell_of_block bx8 6
        have cx7 := Joins.cell_of_block bx8 7
        have cx8 := Joins.cell_of_block bx8 8
        have cx9 := Joins.cell_of_block bx8 9
        have cy0 := Joins.cell_of_block by8 0
        have cy1 := Joins.cell_of_block by8 1
        have cy2 := Joins.cell_of_block by8 2
        have cy3 := Joins.cell_of_block by8 3
        have cy4 := Joins.cell_of_block by8 4
        have cy5 := Joins.cell_of_block by8 5
        have cy6 := Joins.cell_of_block by8 6
        have cy7 := Joins.cell_of_block by8 7
        have cy8 := Joins.cell_of_block by8 8
        have cy9 := Joins.cell_of_block by8 9
        go_wp2_with fail
        go_ret
        exact ⟨rfl, below_then hB8 (below_then (below_alloc _ _) (Below.refl _ _))⟩
    · generalize moreR b one = X at *
      generalize moreR b two = Y at *
      have d1 : (X.2 != 0) = false := by simp [m1, h1]
      have d2 : (Y.2 != 0) = true := by simp [m2, h2]
      have P1 := Lib.hid p1
      have P2 := Lib.hid p2
      clear p1 p2 m1 m2 h1 h2
      unfold btV k3V
      go_enter Try.func16, Try.ntmps16
      go_wp2_with fail
      refine (head_c S _).mono ?_
      rintro e w1 ⟨he, hb1⟩
      subst he
      have hs1 := hb1.size
      simp only [World.size_alloc] at hs1
      have hF1 : Below w.heap.size w w1 := (below_then (below_alloc _ _) (below_then (below_alloc _ _) (below_then (below_alloc _ _) hb1)))
      have hB1 := hF1
      have zb1 : w.heap.size < w1.heap.size := by omega
      have bb1 : w1.heap[w.heap.size]? = some (.cells #[.int .i64 b.n, .int .i64 b.s.a, .int .i64 b.s.b, .int .i64 b.s.c, .int .i64 b.k0.lo, .int .i64 b.k0.hi, .int .i64 b.k1.lo, .int .i64 b.k1.hi, .int .i64 b.k2.lo, .int .i64 b.k2.hi] 38) := (hb1.block (w.heap.size) (by simp <;> omega)).trans ((Below.heap_alloc _ _ _ (by simp <;> omega)).trans ((Below.heap_alloc _ _ _ (by simp)).trans (alloc_at w (.cells #[.int .i64 b.n, .int .i64 b.s.a, .int .i64 b.s.b, .int .i64 b.s.c, .int .i64 b.k0.lo, .int .i64 b.k0.hi, .int .i64 b.k1.lo, .int .i64 b.k1.hi, .int .i64 b.k2.lo, .int .i64 b.k2.hi] 38) (by first | rfl | simp))))
      have zo1 : w.heap.size + 1 < w1.heap.size := by omega
      have bo1 : w1.heap[w.heap.size + 1]? = some (.cells #[.int .i64 one.a, .int .i64 one.b, .int .i64 one.c] 23) := (hb1.block (w.heap.size + 1) (by simp <;> omega)).trans ((Below.heap_alloc _ _ _ (by simp)).trans (alloc_at (w.alloc (.cells #[.int .i64 b.n, .int .i64 b.s.a, .int .i64 b.s.b, .int .i64 b.s.c, .int .i64 b.k0.lo, .int .i64 b.k0.hi, .int .i64 b.k1.lo, .int .i64 b.k1.hi, .int .i64 b.k2.lo, .int .i64 b.k2.hi] 38)) (.cells #[.int .i64 one.a, .int .i64 one.b, .int .i64 one.c] 23) (by first | rfl | simp)))
      have zu1 : w.heap.size + 1 + 1 < w1.heap.size := by omega
      have bu1 : w1.heap[w.heap.size + 1 + 1]? = some (.cells #[.int .i64 two.a, .int .i64 two.b, .int .i64 two.c] 23) := (hb1.block (w.heap.size + 1 + 1) (by simp)).trans (alloc_at ((w.alloc (.cells #[.int .i64 b.n, .int .i64 b.s.a, .int .i64 b.s.b, .int .i64 b.s.c, .int .i64 b.k0.lo, .int .i64 b.k0.hi, .int .i64 b.k1.lo, .int .i64 b.k1.hi, .int .i64 b.k2.lo, .int .i64 b.k2.hi] 38)).alloc (.cells #[.int .i64 one.a, .int .i64 one.b, .int .i64 one.c] 23)) (.cells #[.int .i64 two.a, .int .i64 two.b, .int .i64 two.c] 23) (by first | rfl | simp))
      clear hb1 hF1
      have cb0 := Joins.cell_of_block bb1 0
      have cb1 := Joins.cell_of_block bb1 1
      have cb2 := Joins.cell_of_block bb1 2
      have cb3 := Joins.cell_of_block bb1 3
      have cb4 := Joins.cell_of_block bb1 4
      have cb5 := Joins.cell_of_block bb1 5
      have cb6 := Joins.cell_of_block bb1 6
      have cb7 := Joins.cell_of_block bb1 7
      have cb8 := Joins.cell_of_block bb1 8
      have cb9 := Joins.cell_of_block bb1 9
      have co0 := Joins.cell_of_block bo1 0
      have co1 := Joins.cell_of_block bo1 1
      have co2 := Joins.cell_of_block bo1 2
      go_wp2_with fail
      refine (P1.out _).mono ?_
      rintro e w2 ⟨he, hb2⟩
      unfold btV at he
      subst he
      have hs2 := hb2.size
      have hF2 : Below w1.heap.size w1 w2 := hb2
      have hB2 := below_then hB1 hF2
      have zb2 : w.heap.size < w2.heap.size := by omega
      have bb2 := (hF2.block (w.heap.size) zb1).trans bb1
      have zo2 : w.heap.size + 1 < w2.heap.size := by omega
      have bo2 := (hF2.block (w.heap.size + 1) zo1).trans bo1
      have zu2 : w.heap.size + 1 + 1 < w2.heap.size := by omega
      have bu2 := (hF2.block (w.heap.size + 1 + 1) zu1).trans bu1
      clear hb2 hF2 hB1 hs1 zb1 bb1 zo1 bo1 zu1 bu1 cb0 cb1 cb2 cb3 cb4 cb5 cb6 cb7 cb8 cb9 co0 co1 co2
      have cb0 := Joins.cell_of_block bb2 0
      have cb1 := Joins.cell_of_block bb2 1
      have cb2 := Joins.cell_of_block bb2 2
      have cb3 := Joins.cell_of_block bb2 3
      have cb4 := Joins.cell_of_block bb2 4
      have cb5 := Joins.cell_of_block bb2 5
      have cb6 := Joins.cell_of_block bb2 6
      have cb7 := Joins.cell_of_block bb2 7
      have cb8 := Joins.cell_of_block bb2 8
      have cb9 := Joins.cell_of_block bb2 9
      have cu0 := Joins.cell_of_block bu2 0
      have cu1 := Joins.cell_of_block bu2 1
      have cu2 := Joins.cell_of_block bu2 2
      go_wp2_with fail
      refine (P2.out _).mono ?_
      rintro e w3 ⟨he, hb3⟩
      unfold btV at he
      subst he
      have hs3 := hb3.size
      simp only [World.size_alloc] at hs3
      have hF3 : Below w2.heap.size w2 w3 := (below_then (below_alloc _ _) hb3)
      have hB3 := below_then hB2 hF3
      have lbx := zb2
      have zb3 : w.heap.size < w3.heap.size := by omega
      have bb3 := (hF3.block (w.heap.size) zb2).trans bb2
      have lox := zo2
      have zo3 : w.heap.size + 1 < w3.heap.size := by omega
      have bo3 := (hF3.block (w.heap.size + 1) zo2).trans bo2
      have lux := zu2
      have zu3 : w.heap.size + 1 + 1 < w3.heap.size := by omega
      have bu3 := (hF3.block (w.heap.size + 1 + 1) zu2).trans bu2
      have zx3 : w2.heap.size < w3.heap.size := by omega
      have bx3 : w3.heap[w2.heap.size]? = some (.cells #[.int .i64 X.1.n, .int .i64 X.1.s.a, .int .i64 X.1.s.b, .int .i64 X.1.s.c, .int .i64 X.1.k0.lo, .int .i64 X.1.k0.hi, .int .i64 X.1.k1.lo, .int .i64 X.1.k1.hi, .int .i64 X.1.k2.lo, .int .i64 X.1.k2.hi] 38) := (hb3.block (w2.heap.size) (by simp)).trans (alloc_at w2 (.cells #[.int .i64 X.1.n, .int .i64 X.1.s.a, .int .i64 X.1.s.b, .int .i64 X.1.s.c, .int .i64 X.1.k0.lo, .int .i64 X.1.k0.hi, .int .i64 X.1.k1.lo, .int .i64 X.1.k1.hi, .int .i64 X.1.k2.lo, .int .i64 X.1.k2.hi] 38) (by first | rfl | simp))
      clear hb3 hF3 hB2 hs2 zb2 bb2 zo2 bo2 zu2 bu2 cb0 cb1 cb2 cb3 cb4 cb5 cb6 cb7 cb8 cb9 cu0 cu1 cu2
      go_wp2_with fail
      go_ret
      exact ⟨rfl, below_then hB3 (below_then (below_alloc _ _) (Below.refl _ _))⟩
  · generalize moreR b one = X at *
    generalize moreR b two = Y at *
    have d1 : (X.2 != 0) = true := by simp [m1, h1]
    have P1 := Lib.hid p1
    have P2 := Lib.hid p2
    clear p1 p2 m1 m2 h1
    unfold btV k3V
    go_enter Try.func16, Try.ntmps16
    go_wp2_with fail
    refine (head_c S _).mono ?_
    rintro e w1 ⟨he, hb1⟩
    subst he
    have hs1 := hb1.size
    simp only [World.size_alloc] at hs1
    have hF1 : Below w.heap.size w w1 := (below_then (below_alloc _ _) (below_then (below_alloc _ _) (below_then (below_alloc _ _) hb1)))
    have hB1 := hF1
    have zb1 : w.heap.size < w1.heap.size := by omega
    have bb1 : w1.heap[w.heap.size]? = some (.cells #[.int .i64 b.n, .int .i64 b.s.a, .int .i64 b.s.b, .int .i64 b.s.c, .int .i64 b.k0.lo, .int .i64 b.k0.hi, .int .i64 b.k1.lo, .int .i64 b.k1.hi, .int .i64 b.k2.lo, .int .i64 b.k2.hi] 38) := (hb1.block (w.heap.size) (by simp <;> omega)).trans ((Below.heap_alloc _ _ _ (by simp <;> omega)).trans ((Below.heap_alloc _ _ _ (by simp)).trans (alloc_at w (.cells #[.int .i64 b.n, .int .i64 b.s.a, .int .i64 b.s.b, .int .i64 b.s.c, .int .i64 b.k0.lo, .int .i64 b.k0.hi, .int .i64 b.k1.lo, .int .i64 b.k1.hi, .int .i64 b.k2.lo, .int .i64 b.k2.hi] 38) (by first | rfl | simp))))
    have zo1 : w.heap.size + 1 < w1.heap.size := by omega
    have bo1 : w1.heap[w.heap.size + 1]? = some (.cells #[.int .i64 one.a, .int .i64 one.b, .int .i64 one.c] 23) := (hb1.block (w.heap.size + 1) (by simp <;> omega)).trans ((Below.heap_alloc _ _ _ (by simp)).trans (alloc_at (w.alloc (.cells #[.int .i64 b.n, .int .i64 b.s.a, .int .i64 b.s.b, .int .i64 b.s.c, .int .i64 b.k0.lo, .int .i64 b.k0.hi, .int .i64 b.k1.lo, .int .i64 b.k1.hi, .int .i64 b.k2.lo, .int .i64 b.k2.hi] 38)) (.cells #[.int .i64 one.a, .int .i64 one.b, .int .i64 one.c] 23) (by first | rfl | simp)))
    have zu1 : w.heap.size + 1 + 1 < w1.heap.size := by omega
    have bu1 : w1.heap[w.heap.size + 1 + 1]? = some (.cells #[.int .i64 two.a, .int .i64 two.b, .int .i64 two.c] 23) := (hb1.block (w.heap.size + 1 + 1) (by simp)).trans (alloc_at ((w.alloc (.cells #[.int .i64 b.n, .int .i64 b.s.a, .int .i64 b.s.b, .int .i64 b.s.c, .int .i64 b.k0.lo, .int .i64 b.k0.hi, .int .i64 b.k1.lo, .int .i64 b.k1.hi, .int .i64 b.k2.lo, .int .i64 b.k2.hi] 38)).alloc (.cells #[.int .i64 one.a, .int .i64 one.b, .int .i64 one.c] 23)) (.cells #[.int .i64 two.a, .int .i64 two.b, .int .i64 two.c] 23) (by first | rfl | simp))
    clear hb1 hF1
    have cb0 := Joins.cell_of_block bb1 0
    have cb1 := Joins.cell_of_block bb1 1
    have cb2 := Joins.cell_of_block bb1 2
    have cb3 := Joins.cell_of_block bb1 3
    have cb4 := Joins.cell_of_block bb1 4
    have cb5 := Joins.cell_of_block bb1 5
    have cb6 := Joins.cell_of_block bb1 6
    have cb7 := Joins.cell_of_block bb1 7
    have cb8 := Joins.cell_of_block bb1 8
    have cb9 := Joins.cell_of_block bb1 9
    have co0 := Joins.cell_of_block bo1 0
    have co1 := Joins.cell_of_block bo1 1
    have co2 := Joins.cell_of_block bo1 2
    go_wp2_with fail
    refine (P1.out _).mono ?_
    rintro e w2 ⟨he, hb2⟩
    unfold btV at he
    subst he
    have hs2 := hb2.size
    have hF2 : Below w1.heap.size w1 w2 := hb2
    have hB2 := below_then hB1 hF2
    have zb2 : w.heap.size < w2.heap.size := by omega
    have bb2 := (hF2.block (w.heap.size) zb1).trans bb1
    have zo2 : w.heap.size + 1 < w2.heap.size := by omega
    have bo2 := (hF2.block (w.heap.size + 1) zo1).trans bo1
    have zu2 : w.heap.size + 1 + 1 < w2.heap.size := by omega
    have bu2 := (hF2.block (w.heap.size + 1 + 1) zu1).trans bu1
    clear hb2 hF2 hB1 hs1 zb1 bb1 zo1 bo1 zu1 bu1 cb0 cb1 cb2 cb3 cb4 cb5 cb6 cb7 cb8 cb9 co0 co1 co2
    have cb0 := Joins.cell_of_block bb2 0
    have cb1 := Joins.cell_of_block bb2 1
    have cb2 := Joins.cell_of_block bb2 2
    have cb3 := Joins.cell_of_block bb2 3
    have cb4 := Joins.cell_of_block bb2 4
    have cb5 := Joins.cell_of_block bb2 5
    have cb6 := Joins.cell_of_block bb2 6
    have cb7 := Joins.cell_of_block bb2 7
    have cb8 := Joins.cell_of_block bb2 8
    have cb9 := Joins.cell_of_block bb2 9
    have cu0 := Joins.cell_of_block bu2 0
    have cu1 := Joins.cell_of_block bu2 1
    have cu2 := Joins.cell_of_block bu2 2
    go_wp2_with fail
    refine (P2.out _).mono ?_
    rintro e w3 ⟨he, hb3⟩
    unfold btV at he
    subst he
    have hs3 := hb3.size
    simp only [World.size_alloc] at hs3
    have hF3 : Below w2.heap.size w2 w3 := (below_then (below_alloc _ _) hb3)
    have hB3 := below_then hB2 hF3
    have lbx := zb2
    have zb3 : w.heap.size < w3.heap.size := by omega
    have bb3 := (hF3.block (w.heap.size) zb2).trans bb2
    have lox := zo2
    have zo3 : w.heap.size + 1 < w3.heap.size := by omega
    have bo3 := (hF3.block (w.heap.size + 1) zo2).trans bo2
    have lux := zu2
    have zu3 : w.heap.size + 1 + 1 < w3.heap.size := by omega
    have bu3 := (hF3.block (w.heap.size + 1 + 1) zu2).trans bu2
    have zx3 : w2.heap.size < w3.heap.size := by omega
    have bx3 : w3.heap[w2.heap.size]? = some (.cells #[.int .i64 X.1.n, .int .i64 X.1.s.a, .int .i64 X.1.s.b, .int .i64 X.1.s.c, .int .i64 X.1.k0.lo, .int .i64 X.1.k0.hi, .int .i64 X.1.k1.lo, .int .i64 X.1.k1.hi, .int .i64 X.1.k2.lo, .int .i64 X.1.k2.hi] 38) := (hb3.block (w2.heap.size) (by simp)).trans (alloc_at w2 (.cells #[.int .i64 X.1.n, .int .i64 X.1.s.a, .int .i64 X.1.s.b, .int .i64 X.1.s.c, .int .i64 X.1.k0.lo, .int .i64 X.1.k0.hi, .int .i64 X.1.k1.lo, .int .i64 X.1.k1.hi, .int .i64 X.1.k2.lo, .int .i64 X.1.k2.hi] 38) (by first | rfl | simp))
    clear hb3 hF3 hB2 hs2 zb2 bb2 zo2 bo2 zu2 bu2 cb0 cb1 cb2 cb3 cb4 cb5 cb6 cb7 cb8 cb9 cu0 cu1 cu2
    go_wp2_with fail
    go_ret
    exact ⟨rfl, below_then hB3 (below_then (below_alloc _ _) (Below.refl _ _))⟩
end Go.Proofs.Ytihgkeokhfmccaa
