/- Means: each lies within Ends, all together are Barrows, and the chances of the next barrow 1. -/
import Derived.Test.YtihgkeokhfmccaaJ12
import Derived.Test.YtihgkeokhfmccaaZ3MathF
namespace Go.Proofs.Ytihgkeokhfmccaa
open Go Go.RowKit

def momT (b : Bt) (j : Nat) : Int := sumI (fun i => momI (weightsL b (i : Int)) 0) j
theorem momT_le {b : Bt} (h : checkB b = 0) {j : Nat} (hj : j ≤ 3) : 0 ≤ momT b j ∧ momT b j ≤ 150 * totalI (weightsL b 0) := by
  have hr := (check_ok h).1
  have hn := right_n hr
  have a : ∀ i : Nat, 0 ≤ momI (weightsL b (i : Int)) 0 ∧ momI (weightsL b (i : Int)) 0 ≤ 50 * totalI (weightsL b 0) := fun i => by
    have := momQ_le (weights_nonneg b i) (by rw [weights_len]; omega) (Nat.le_refl (weightsL b i).length)
    rw [momQ_end, total_same hr i 0] at this
    exact this
  refine ⟨sumI_nonneg fun i _ => (a i).1, ?_⟩
  have t := (total_pos h 0).1
  have u : momT b j ≤ sumI (fun _ => 50 * totalI (weightsL b 0) * 1) j := sumI_le fun i _ => by have := (a i).2; omega
  have v : sumI (fun _ => 50 * totalI (weightsL b 0) * 1) j = 50 * totalI (weightsL b 0) * sumI (fun _ => 1) j := sumI_mul _ _ _
  rw [v] at u
  match j, hj with
  | 0, _ => simp [sumI] at u; omega
  | 1, _ => simp [sumI] at u; omega
  | 2, _ => simp [sumI] at u; omega
  | 3, _ => simp [sumI] at u; omega
theorem momT_3 {b : Bt} (h : rightB b = true) : momT b 3 = b.n * totalI (weightsL b 0) := by
  rw [← mom_sum3 h]
  simp [momT, sumI]
set_option maxHeartbeats 3200000 in
set_option maxRecDepth 100000 in
theorem SampleMeans_some (S : Sam) (b : Bt) (w : World) (hc : checkB b = 0) (hl : b.s.a + b.s.b + b.s.c < b.n) : Calls Try.prog 15 #[btV b] w fun e w' => e = .returned (.bool true) ∧ Below w.heap.size w w' := by
  have eqRt := Try.eqRt
  have eqSp := Try.eqSp
  have eqTr := Try.eqTr
  have eqBt := Try.eqBt
  have neRt := Try.neRt
  have neBt := Try.neBt
  have eqK3 := Try.eqK3
  have p0 := fun w => S.Check b w
  rw [hc] at p0
  have P0 := Lib.hid p0
  have hr := (check_ok hc).1
  obtain ⟨nn1, nn2, nn3, nn4, nn5, nn6, nn7, nn8⟩ := right_n hr
  have HC := Lib.hid hc
  have HR := Lib.hid hr
  have tt := total_pos hc 0
  have hall := momT_3 hr
  generalize hT : totalI (weightsL b 0) = T at *
  obtain ⟨tt1, tt2⟩ := tt
  have HT := Lib.hid hT
  have HA := Lib.hid hall
  have N7 := Lib.hid nn7
  rw [nn7] at nn8
  clear p0 hc hr hT hall nn3 nn7
  unfold btV
  go_enter Try.func15, Try.ntmps15
  go_wp2_with fail
  refine (head_c S _).mono ?_
  rintro e w1 ⟨he, hb1⟩
  subst he
  have hs1 := hb1.size
  simp only [World.size_alloc] at hs1
  have hF1 : Below w.heap.size w w1 := (below_then (below_alloc _ _) hb1)
  have hB1 := hF1
  have zb1 : w.heap.size < w1.heap.size := by omega
  have bb1 : w1.heap[w.heap.size]? = some (.cells #[.int .i64 b.n, .int .i64 b.s.a, .int .i64 b.s.b, .int .i64 b.s.c, .int .i64 b.k0.lo, .int .i64 b.k0.hi, .int .i64 b.k1.lo, .int .i64 b.k1.hi, .int .i64 b.k2.lo, .int .i64 b.k2.hi] 38) := (hb1.block (w.heap.size) (by simp)).trans (alloc_at w (.cells #[.int .i64 b.n, .int .i64 b.s.a, .int .i64 b.s.b, .int .i64 b.s.c, .int .i64 b.k0.lo, .int .i64 b.k0.hi, .int .i64 b.k1.lo, .int .i64 b.k1.hi, .int .i64 b.k2.lo, .int .i64 b.k2.hi] 38) (by first | rfl | simp))
  clear hb1 hF1
  have cb0 := Joins.cell_of_block bb1 0
  have cb1 := Joins.cell_of_block bb1 1
  have cb2 := Joins.cell_of_block bb1 2
  have cb3 := Joins.cell_of_block bb1 3
  have cb4 := Joins.cell_of_block bb1 4
  have cb5 := Joins.cell_of_block bb1 5
  have cb6 := Joins.cell_of_block bb1 6
  have cb7 := Joins.cell_of_block bb1 7
  have cb8 := Joins.cell_of_block bb1 8
  have cb9 := Joins.cell_of_block bb1 9
  go_wp2_with fail
  refine (P0.out _).mono ?_
  rintro e w2 ⟨he, hb2⟩
  subst he
  have hs2 := hb2.size
  have hF2 : Below w1.heap.size w1 w2 := hb2
  have hB2 := below_then hB1 hF2
  have zb2 : w.heap.size < w2.heap.size := by omega
  have bb2 := (hF2.block (w.heap.size) zb1).trans bb1
  clear hb2 hF2 hB1 hs1 zb1 bb1 cb0 cb1 cb2 cb3 cb4 cb5 cb6 cb7 cb8 cb9
  have cb0 := Joins.cell_of_block bb2 0
  have cb1 := Joins.cell_of_block bb2 1
  have cb2 := Joins.cell_of_block bb2 2
  have cb3 := Joins.cell_of_block bb2 3
  have cb4 := Joins.cell_of_block bb2 4
  have cb5 := Joins.cell_of_block bb2 5
  have cb6 := Joins.cell_of_block bb2 6
  have cb7 := Joins.cell_of_block bb2 7
  have cb8 := Joins.cell_of_block bb2 8
  have cb9 := Joins.cell_of_block bb2 9
  go_wp2_with fail
  go_loopw [5, 6, 7] (fun al sm i wr => ∃ j : Nat, j ≤ 3 ∧ i = .int .i64 j ∧ al = .int .i64 (if j = 0 then 0 else T) ∧ sm = .int .i64 (momT b j) ∧ Below w.heap.size w wr ∧ w.heap.size < wr.heap.size ∧ wr.heap[w.heap.size]? = some (.cells #[.int .i64 b.n, .int .i64 b.s.a, .int .i64 b.s.b, .int .i64 b.s.c, .int .i64 b.k0.lo, .int .i64 b.k0.hi, .int .i64 b.k1.lo, .int .i64 b.k1.hi, .int .i64 b.k2.lo, .int .i64 b.k2.hi] 38)) (fun _ _ i _ => 3 - (intOf i).toNat)
  case atStart => exact ⟨0, by omega, rfl, rfl, rfl, hB2, zb2, bb2⟩
  case round =>
    clear cb0 cb1 cb2 cb3 cb4 cb5 cb6 cb7 cb8 cb9 zb2 bb2 hs2
    obtain ⟨j, hj, rfl, rfl, rfl, hB20, zb20, bb20⟩ := hrel
    obtain ⟨w20, rfl⟩ : ∃ wo : World, wo = wr := ⟨_, rfl⟩
    have hs20 : w.heap.size < w20.heap.size := zb20
    have hb50 := momT_le HC.out hj
    rw [HT.out] at hb50
    obtain ⟨hb51, hb52⟩ := hb50
    obtain rfl | rfl | rfl | rfl : j = 0 ∨ j = 1 ∨ j = 2 ∨ j = 3 := by omega
    · have es : b.s.get 0 = b.s.a := rfl
      have hk := kind_sort HC.out (s := 0) (by omega) (by omega)
      have er := ends_range HC.out 0
      have em := mom_ends HC.out 0
      have eT : totalI (weightsL b 0) = T := by rw [total_same HR.out 0 0, HT.out]
      have pm := fun w => S.Mean b 0 w
      rw [meanR_ok hk, eT] at pm
      have pe := fun w => S.Ends b 0 w
      rw [endsR_ok hk] at pe
      have pw := fun w => S.Weights b 0 w
      rw [hk, if_pos rfl] at pw
      have pn := fun w => S.Next b 0 w
      rw [nextR_ok hk (by rw [N7.out]; omega)] at pn
      rw [eT] at em
      have eM := mom_shift (weightsL b 0) (b.s.get 0)
      rw [eT, es] at eM
      have eN := mom_nonneg HR.out 0 (d := b.s.get 0) (Int.le_refl _)
      rw [es] at eN
      have eL := weights_len b 0
      have LA := fun k hk => allQ_le (l := weightsL b 0) (weights_nonneg b 0) (j := k) hk
      have LM := fun k hk => momQ_le (l := weightsL b 0) (weights_nonneg b 0) (by rw [eL]; omega) (j := k) hk
      have aE := allQ_end (weightsL b 0)
      have mE := momQ_end (weightsL b 0)
      rw [eT] at aE LA LM
      have HS : Hid (momT b 0 + momI (weightsL b 0) 0 = momT b 1) := rfl
      have m0 : 0 ≤ momI (weightsL b 0) 0 := by rw [← mE]; exact (LM _ (Nat.le_refl _)).1
      have rm := ratio_parts m0 (show 0 < T by omega)
      rw [N7.out, eT, es] at pn
      have f1 : T ≤ (b.n - (b.s.a + b.s.b + b.s.c)) * T := by have := Int.mul_le_mul_of_nonneg_right (show 1 ≤ b.n - (b.s.a + b.s.b + b.s.c) by omega) (show 0 ≤ T by omega); omega
      have f2 : (b.n - (b.s.a + b.s.b + b.s.c)) * T ≤ 50 * T := Int.mul_le_mul_of_nonneg_right (by omega) (by omega)
      have rn := ratio_parts eN (show 0 < (b.n - (b.s.a + b.s.b + b.s.c)) * T by omega)
      rw [show b.n - (b.s.a + b.s.b + b.s.c) = b.n - b.s.a - b.s.b - b.s.c by omega] at pn rn f1 f2
      generalize ratioI (momI (weightsL b 0) b.s.a) ((b.n - b.s.a - b.s.b - b.s.c) * T) = N at *
      generalize ratioI (momI (weightsL b 0) 0) T = M at *
      rw [eM] at rn eN
      generalize momI (weightsL b 0) b.s.a = m1 at *
      generalize hm : momI (weightsL b 0) 0 = m2 at *
      generalize weightsL b 0 = L at *
      generalize endsI b 0 = E at *
      clear hm
      obtain ⟨rm1, rm2, rm3, rm4, rm5, rm6, rm7, rm8⟩ := rm
      have g1 : 0 ≤ E.lo * T ∧ E.lo * T ≤ 50 * T := ⟨Int.mul_nonneg er.1 (by omega), Int.mul_le_mul_of_nonneg_right (by omega) (by omega)⟩
      have g2 : 0 ≤ E.hi * T ∧ E.hi * T ≤ 50 * T := ⟨Int.mul_nonneg (by omega) (by omega), Int.mul_le_mul_of_nonneg_right (by omega) (by omega)⟩
      have g3 : 0 ≤ b.s.a * T ∧ b.s.a * T ≤ 50 * T := ⟨Int.mul_nonneg (by omega) (by omega), Int.mul_le_mul_of_nonneg_right (by omega) (by omega)⟩
      have mm := LM L.length (Nat.le_refl _)
      rw [mE] at mm
      have d1 : decide (M.den < 1) = false := decide_eq_false (by omega)
      have d2 : decide (T < 1) = false := decide_eq_false (by omega)
      have d3 : decide (m2 < E.lo * T) = false := decide_eq_false (by omega)
      have d4 : decide (m2 > E.hi * T) = false := decide_eq_false (by omega)
      have d5 : (T != T) = false := by simp
      have d6 : ((b.n - b.s.a - b.s.b - b.s.c) == 0) = false := by rw [beq_eq_false_iff_ne]; omega
      obtain ⟨rn1, rn2, rn3, rn4, rn5, rn6, rn7, rn8⟩ := rn
      have d7 : decide (N.den < 1) = false := decide_eq_false (by omega)
      have PM := Lib.hid pm
      have PE := Lib.hid pe
      have PW := Lib.hid pw
      have PN := Lib.hid pn
      have LAM := Lib.hid (And.intro LA LM)
      have HEE := Lib.hid (And.intro aE mE)
      clear pm pe pw pn LA LM aE mE eM eL em es eT hk
      obtain ⟨g11, g12⟩ := g1
      obtain ⟨g21, g22⟩ := g2
      obtain ⟨g31, g32⟩ := g3
      obtain ⟨mm1, mm2⟩ := mm
      have cb0 := Joins.cell_of_block bb20 0
      have cb1 := Joins.cell_of_block bb20 1
      have cb2 := Joins.cell_of_block bb20 2
      have cb3 := Joins.cell_of_block bb20 3
      have cb4 := Joins.cell_of_block bb20 4
      have cb5 := Joins.cell_of_block bb20 5
      have cb6 := Joins.cell_of_block bb20 6
      have cb7 := Joins.cell_of_block bb20 7
      have cb8 := Joins.cell_of_block bb20 8
      have cb9 := Joins.cell_of_block bb20 9
      go_wp2_with fail
      refine (PM.out _).mono ?_
      rintro e w21 ⟨he, hb21⟩
      unfold rtV at he
      subst he
      have hs21 := hb21.size
      have hF21 : Below w20.heap.size w20 w21 := hb21
      have hB21 := below_then hB20 hF21
      have zb21 : w.heap.size < w21.heap.size := by omega
      have bb21 := (hF21.block (w.heap.size) zb20).trans bb20
      clear hb21 hF21 hB20 hs20 zb20 bb20 cb0 cb1 cb2 cb3 cb4 cb5 cb6 cb7 cb8 cb9
      have cb0 := Joins.cell_of_block bb21 0
      have cb1 := Joins.cell_of_block bb21 1
      have cb2 := Joins.cell_of_block bb21 2
      have cb3 := Joins.cell_of_block bb21 3
      have cb4 := Joins.cell_of_block bb21 4
      have cb5 := Joins.cell_of_block bb21 5
      have cb6 := Joins.cell_of_block bb21 6
      have cb7 := Joins.cell_of_block bb21 7
      have cb8 := Joins.cell_of_block bb21 8
      have cb9 := Joins.cell_of_block bb21 9
      go_wp2_with fail
      refine (PE.out _).mono ?_
      rintro e w22 ⟨he, hb22⟩
      unfold spV at he
      subst he
      have hs22 := hb22.size
      simp only [World.size_alloc] at hs22
      have hF22 : Below w21.heap.size w21 w22 := (below_then (below_alloc _ _) hb22)
      have hB22 := below_then hB21 hF22
      have zb22 : w.heap.size < w22.heap.size := by omega
      have bb22 := (hF22.block (w.heap.size) zb21).trans bb21
      have zm22 : w21.heap.size < w22.heap.size := by omega
      have bm22 : w22.heap[w21.heap.size]? = some (.cells #[.int .i64 M.num, .int .i64 M.den] 30) := (hb22.block (w21.heap.size) (by simp)).trans (alloc_at w21 (.cells #[.int .i64 M.num, .int .i64 M.den] 30) (by first | rfl | simp))
      clear hb22 hF22 hB21 hs21 zb21 bb21 cb0 cb1 cb2 cb3 cb4 cb5 cb6 cb7 cb8 cb9
      have cb0 := Joins.cell_of_block bb22 0
      have cb1 := Joins.cell_of_block bb22 1
      have cb2 := Joins.cell_of_block bb22 2
      have cb3 := Joins.cell_of_block bb22 3
      have cb4 := Joins.cell_of_block bb22 4
      have cb5 := Joins.cell_of_block bb22 5
      have cb6 := Joins.cell_of_block bb22 6
      have cb7 := Joins.cell_of_block bb22 7
      have cb8 := Joins.cell_of_block bb22 8
      have cb9 := Joins.cell_of_block bb22 9
      go_wp2_with fail
      refine (PW.out _).mono ?_
      rintro e w23 ⟨hlu, he, hl23, hb23⟩
      obtain ⟨hlA, hlC, rfl⟩ := hl23.form
      subst he
      have hs23 := hb23.size
      simp only [World.size_alloc] at hs23
      have hF23 : Below w22.heap.size w22 w23 := (below_then (below_alloc _ _) hb23)
      have hB23 := below_then hB22 hF23
      have zb23 : w.heap.size < w23.heap.size := by omega
      have bb23 := (hF23.block (w.heap.size) zb22).trans bb22
      have zm23 : w21.heap.size < w23.heap.size := by omega
      have bm23 := (hF23.block (w21.heap.size) zm22).trans bm22
      have zx23 : w22.heap.size < w23.heap.size := by omega
      have bx23 : w23.heap[w22.heap.size]? = some (.cells #[.int .i64 E.lo, .int .i64 E.hi] 35) := (hb23.block (w22.heap.size) (by simp)).trans (alloc_at w22 (.cells #[.int .i64 E.lo, .int .i64 E.hi] 35) (by first | rfl | simp))
      clear hb23 hF23 hB22 hs22 zb22 bb22 zm22 bm22 cb0 cb1 cb2 cb3 cb4 cb5 cb6 cb7 cb8 cb9
      have cb0 := Joins.cell_of_block bb23 0
      have cb1 := Joins.cell_of_block bb23 1
      have cb2 := Joins.cell_of_block bb23 2
      have cb3 := Joins.cell_of_block bb23 3
      have cb4 := Joins.cell_of_block bb23 4
      have cb5 := Joins.cell_of_block bb23 5
      have cb6 := Joins.cell_of_block bb23 6
      have cb7 := Joins.cell_of_block bb23 7
      have cb8 := Joins.cell_of_block bb23 8
      have cb9 := Joins.cell_of_block bb23 9
      go_wp2_with fail
      refine (PN.out _).mono ?_
      rintro e w24 ⟨he, hb24⟩
      unfold rtV at he
      subst he
      have hs24 := hb24.size
      have hF24 : Below w23.heap.size w23 w24 := hb24
      have hB24 := below_then hB23 hF24
      have zb24 : w.heap.size < w24.heap.size := by omega
      have bb24 := (hF24.block (w.heap.size) zb23).trans bb23
      have zm24 : w21.heap.size < w24.heap.size := by omega
      have bm24 := (hF24.block (w21.heap.size) zm23).trans bm23
      have zx24 : w22.heap.size < w24.heap.size := by omega
      have bx24 := (hF24.block (w22.heap.size) zx23).trans bx23
      have hl24 := hl23.later hF24
      clear hb24 hF24 hB23 hs23 zb23 bb23 zm23 bm23 zx23 bx23 hl23 cb0 cb1 cb2 cb3 cb4 cb5 cb6 cb7 cb8 cb9
      have cm0 := Joins.cell_of_block bm24 0
      have cm1 := Joins.cell_of_block bm24 1
      go_wp2_with fail
      obtain ⟨w25, hW⟩ : ∃ w25, w25 = (w24.alloc (.cells #[.int .i64 N.num, .int .i64 N.den] 30)) := ⟨_, rfl⟩
      rw [← hW]
      have hF25 : Below w24.heap.size w24 w25 := by rw [hW]; exact (below_then (below_alloc _ _) (Below.refl _ _))
      have hs25 : w25.heap.size = w24.heap.size + 1 := by rw [hW]; simp
      have hB25 := below_then hB24 hF25
      have zb25 : w.heap.size < w25.heap.size := by omega
      have bb25 := (hF25.block (w.heap.size) zb24).trans bb24
      have zm25 : w21.heap.size < w25.heap.size := by omega
      have bm25 := (hF25.block (w21.heap.size) zm24).trans bm24
      have zx25 : w22.heap.size < w25.heap.size := by omega
      have bx25 := (hF25.block (w22.heap.size) zx24).trans bx24
      have zp25 : w24.heap.size < w25.heap.size := by omega
      have bp25 : w25.heap[w24.heap.size]? = some (.cells #[.int .i64 N.num, .int .i64 N.den] 30) := by rw [hW]; exact (alloc_at w24 (.cells #[.int .i64 N.num, .int .i64 N.den] 30) (by first | rfl | simp))
      have hl25 := hl24.later hF25
      replace hs25 : w24.heap.size ≤ w25.heap.size := by omega
      clear hW hF25 hB24 hs24 zb24 bb24 zm24 bm24 zx24 bx24 hl24 cm0 cm1
      go_loopw [16, 17, 18] (fun v u i wr => ∃ k : Nat, k ≤ L.length ∧ i = .int .i64 k ∧ v = .int .i64 (momQ L k) ∧ u = .int .i64 (allQ L k) ∧ w25 = wr) (fun _ _ i _ => L.length - (intOf i).toNat)
      case atStart => exact ⟨0, by omega, rfl, rfl, rfl, rfl⟩
      case round =>
        obtain ⟨k, hkk, rfl, rfl, rfl, rfl⟩ := hrel
        by_cases hkl : k < L.length
        · have dkl : decide ((k : Int) < (L.length : Int)) = true := decide_eq_true (by omega)
          obtain ⟨qA, qcap, qe, q1, q2, q3⟩ := Ints.open_ hl25
          cases qe
          obtain ⟨qb, qoff, qx, rfl, qB, qX, qc⟩ := q3 k hkl
          have s1 := allQ_step qX
          have s2 := momQ_step qX
          have b0 := LAM.out.1 k (by omega)
          have b1 := LAM.out.1 (k + 1) (by omega)
          have b2 := LAM.out.2 k (by omega)
          have b3 := LAM.out.2 (k + 1) (by omega)
          rw [s1] at b1
          rw [s2] at b3
          have HS1 := Lib.hid s1
          have HS2 := Lib.hid s2
          clear s1 s2 q3
          obtain ⟨b01, b02⟩ := b0
          obtain ⟨b11, b12⟩ := b1
          obtain ⟨b21, b22⟩ := b2
          obtain ⟨b31, b32⟩ := b3
          have b4 : -24795926647405200 ≤ (k : Int) * qx ∧ (k : Int) * qx ≤ 24795926647405200 := by omega
          generalize momQ L k = mk at *
          generalize allQ L k = ak at *
          go_wp2
          go_roundw
          case rel => exact ⟨k + 1, by omega, by go_num, by rw [HS2.out], by rw [HS1.out], by first | rfl | trivial⟩
          case measure => simp [intOf]; omega
        · obtain rfl : k = L.length := by omega
          have dkl : decide ((L.length : Int) < (L.length : Int)) = false := decide_eq_false (by omega)
          obtain ⟨e1, e2⟩ := HEE.out
          rw [e1, e2]
          clear e1 e2
          have cb0 := Joins.cell_of_block bb25 0
          have cb1 := Joins.cell_of_block bb25 1
          have cb2 := Joins.cell_of_block bb25 2
          have cb3 := Joins.cell_of_block bb25 3
          have cb4 := Joins.cell_of_block bb25 4
          have cb5 := Joins.cell_of_block bb25 5
          have cb6 := Joins.cell_of_block bb25 6
          have cb7 := Joins.cell_of_block bb25 7
          have cb8 := Joins.cell_of_block bb25 8
          have cb9 := Joins.cell_of_block bb25 9
          have cm0 := Joins.cell_of_block bm25 0
          have cm1 := Joins.cell_of_block bm25 1
          have cx0 := Joins.cell_of_block bx25 0
          have cx1 := Joins.cell_of_block bx25 1
          have cp0 := Joins.cell_of_block bp25 0
          have cp1 := Joins.cell_of_block bp25 1
          go_wp2_with fail
          refine wp_region_grown (by kernel_rfl) (by kernel_rfl) fun hcg => ?_
          repeat (go_big_quiet_step (fail))
          refine wpQuiet_nil ?_
          intro _ hw'
          obtain ⟨g, hw''⟩ := hw'
          subst hw''
          have hb26 := g.b
          clear hcg
          generalize g.val = w26 at *
          clear g
          have hs26 := hb26.size
          have hF26 : Below w25.heap.size w25 w26 := hb26
          have hB26 := below_then hB25 hF26
          have zb26 : w.heap.size < w26.heap.size := by omega
          have bb26 := (hF26.block (w.heap.size) zb25).trans bb25
          have zm26 : w21.heap.size < w26.heap.size := by omega
          have bm26 := (hF26.block (w21.heap.size) zm25).trans bm25
          have zx26 : w22.heap.size < w26.heap.size := by omega
          have bx26 := (hF26.block (w22.heap.size) zx25).trans bx25
          have zp26 : w24.heap.size < w26.heap.size := by omega
          have bp26 := (hF26.block (w24.heap.size) zp25).trans bp25
          have hl26 := hl25.later hF26
          clear hb26 hF26 hB25 hs25 zb25 bb25 zm25 bm25 zx25 bx25 zp25 bp25 hl25 cb0 cb1 cb2 cb3 cb4 cb5 cb6 cb7 cb8 cb9 cm0 cm1 cx0 cx1 cp0 cp1
          have cb0 := Joins.cell_of_block bb26 0
          have cb1 := Joins.cell_of_block bb26 1
          have cb2 := Joins.cell_of_block bb26 2
          have cb3 := Joins.cell_of_block bb26 3
          have cb4 := Joins.cell_of_block bb26 4
          have cb5 := Joins.cell_of_block bb26 5
          have cb6 := Joins.cell_of_block bb26 6
          have cb7 := Joins.cell_of_block bb26 7
          have cb8 := Joins.cell_of_block bb26 8
          have cb9 := Joins.cell_of_block bb26 9
          have cp0 := Joins.cell_of_block bp26 0
          have cp1 := Joins.cell_of_block bp26 1
          go_wp2_with fail
          refine wp_region_grown (by kernel_rfl) (by kernel_rfl) fun hcg => ?_
          repeat (go_big_quiet_step (fail))
          refine wpQuiet_nil ?_
          intro _ hw'
          obtain ⟨g, hw''⟩ := hw'
          subst hw''
          have hb27 := g.b
          clear hcg
          generalize g.val = w27 at *
          clear g
          have hs27 := hb27.size
          have hF27 : Below w26.heap.size w26 w27 := hb27
          have hB27 := below_then hB26 hF27
          have zb27 : w.heap.size < w27.heap.size := by omega
          have bb27 := (hF27.block (w.heap.size) zb26).trans bb26
          have zm27 : w21.heap.size < w27.heap.size := by omega
          have bm27 := (hF27.block (w21.heap.size) zm26).trans bm26
          have zx27 : w22.heap.size < w27.heap.size := by omega
          have bx27 := (hF27.block (w22.heap.size) zx26).trans bx26
          have zp27 : w24.heap.size < w27.heap.size := by omega
          have bp27 := (hF27.block (w24.heap.size) zp26).trans bp26
          have hl27 := hl26.later hF27
          clear hb27 hF27 hB26 hs26 zb26 bb26 zm26 bm26 zx26 bx26 zp26 bp26 hl26 cb0 cb1 cb2 cb3 cb4 cb5 cb6 cb7 cb8 cb9 cp0 cp1
          go_wp2_with fail
          go_roundw
          case rel => exact ⟨1, by omega, by go_num, by first | rfl | simp, by first | (rw [HS.out]) | (congr 1; rw [← HS.out]), hB27, zb27, bb27⟩
          case measure => simp [intOf]
    · have es : b.s.get 1 = b.s.b := rfl
      have hk := kind_sort HC.out (s := 1) (by omega) (by omega)
      have er := ends_range HC.out 1
      have em := mom_ends HC.out 1
      have eT : totalI (weightsL b 1) = T := by rw [total_same HR.out 1 0, HT.out]
      have pm := fun w => S.Mean b 1 w
      rw [meanR_ok hk, eT] at pm
      have pe := fun w => S.Ends b 1 w
      rw [endsR_ok hk] at pe
      have pw := fun w => S.Weights b 1 w
      rw [hk, if_pos rfl] at pw
      have pn := fun w => S.Next b 1 w
      rw [nextR_ok hk (by rw [N7.out]; omega)] at pn
      rw [eT] at em
      have eM := mom_shift (weightsL b 1) (b.s.get 1)
      rw [eT, es] at eM
      have eN := mom_nonneg HR.out 1 (d := b.s.get 1) (Int.le_refl _)
      rw [es] at eN
      have eL := weights_len b 1
      have LA := fun k hk => allQ_le (l := weightsL b 1) (weights_nonneg b 1) (j := k) hk
      have LM := fun k hk => momQ_le (l := weightsL b 1) (weights_nonneg b 1) (by rw [eL]; omega) (j := k) hk
      have aE := allQ_end (weightsL b 1)
      have mE := momQ_end (weightsL b 1)
      rw [eT] at aE LA LM
      have HS : Hid (momT b 1 + momI (weightsL b 1) 0 = momT b 2) := rfl
      have m0 : 0 ≤ momI (weightsL b 1) 0 := by rw [← mE]; exact (LM _ (Nat.le_refl _)).1
      have rm := ratio_parts m0 (show 0 < T by omega)
      rw [N7.out, eT, es] at pn
      have f1 : T ≤ (b.n - (b.s.a + b.s.b + b.s.c)) * T := by have := Int.mul_le_mul_of_nonneg_right (show 1 ≤ b.n - (b.s.a + b.s.b + b.s.c) by omega) (show 0 ≤ T by omega); omega
      have f2 : (b.n - (b.s.a + b.s.b + b.s.c)) * T ≤ 50 * T := Int.mul_le_mul_of_nonneg_right (by omega) (by omega)
      have rn := ratio_parts eN (show 0 < (b.n - (b.s.a + b.s.b + b.s.c)) * T by omega)
      rw [show b.n - (b.s.a + b.s.b + b.s.c) = b.n - b.s.a - b.s.b - b.s.c by omega] at pn rn f1 f2
      generalize ratioI (momI (weightsL b 1) b.s.b) ((b.n - b.s.a - b.s.b - b.s.c) * T) = N at *
      generalize ratioI (momI (weightsL b 1) 0) T = M at *
      rw [eM] at rn eN
      generalize momI (weightsL b 1) b.s.b = m1 at *
      generalize hm : momI (weightsL b 1) 0 = m2 at *
      generalize weightsL b 1 = L at *
      generalize endsI b 1 = E at *
      clear hm
      obtain ⟨rm1, rm2, rm3, rm4, rm5, rm6, rm7, rm8⟩ := rm
      have g1 : 0 ≤ E.lo * T ∧ E.lo * T ≤ 50 * T := ⟨Int.mul_nonneg er.1 (by omega), Int.mul_le_mul_of_nonneg_right (by omega) (by omega)⟩
      have g2 : 0 ≤ E.hi * T ∧ E.hi * T ≤ 50 * T := ⟨Int.mul_nonneg (by omega) (by omega), Int.mul_le_mul_of_nonneg_right (by omega) (by omega)⟩
      have g3 : 0 ≤ b.s.b * T ∧ b.s.b * T ≤ 50 * T := ⟨Int.mul_nonneg (by omega) (by omega), Int.mul_le_mul_of_nonneg_right (by omega) (by omega)⟩
      have mm := LM L.length (Nat.le_refl _)
      rw [mE] at mm
      have d1 : decide (M.den < 1) = false := decide_eq_false (by omega)
      have d2 : decide (T < 1) = false := decide_eq_false (by omega)
      have d3 : decide (m2 < E.lo * T) = false := decide_eq_false (by omega)
      have d4 : decide (m2 > E.hi * T) = false := decide_eq_false (by omega)
      have d5 : (T != T) = false := by simp
      have d6 : ((b.n - b.s.a - b.s.b - b.s.c) == 0) = false := by rw [beq_eq_false_iff_ne]; omega
      obtain ⟨rn1, rn2, rn3, rn4, rn5, rn6, rn7, rn8⟩ := rn
      have d7 : decide (N.den < 1) = false := decide_eq_false (by omega)
      have PM := Lib.hid pm
      have PE := Lib.hid pe
      have PW := Lib.hid pw
      have PN := Lib.hid pn
      have LAM := Lib.hid (And.intro LA LM)
      have HEE := Lib.hid (And.intro aE mE)
      clear pm pe pw pn LA LM aE mE eM eL em es eT hk
      obtain ⟨g11, g12⟩ := g1
      obtain ⟨g21, g22⟩ := g2
      obtain ⟨g31, g32⟩ := g3
      obtain ⟨mm1, mm2⟩ := mm
      have cb0 := Joins.cell_of_block bb20 0
      have cb1 := Joins.cell_of_block bb20 1
      have cb2 := Joins.cell_of_block bb20 2
      have cb3 := Joins.cell_of_block bb20 3
      have cb4 := Joins.cell_of_block bb20 4
      have cb5 := Joins.cell_of_block bb20 5
      have cb6 := Joins.cell_of_block bb20 6
      have cb7 := Joins.cell_of_block bb20 7
      have cb8 := Joins.cell_of_block bb20 8
      have cb9 := Joins.cell_of_block bb20 9
      go_wp2_with fail
      refine (PM.out _).mono ?_
      rintro e w21 ⟨he, hb21⟩
      unfold rtV at he
      subst he
      have hs21 := hb21.size
      have hF21 : Below w20.heap.size w20 w21 := hb21
      have hB21 := below_then hB20 hF21
      have zb21 : w.heap.size < w21.heap.size := by omega
      have bb21 := (hF21.block (w.heap.size) zb20).trans bb20
      clear hb21 hF21 hB20 hs20 zb20 bb20 cb0 cb1 cb2 cb3 cb4 cb5 cb6 cb7 cb8 cb9
      have cb0 := Joins.cell_of_block bb21 0
      have cb1 := Joins.cell_of_block bb21 1
      have cb2 := Joins.cell_of_block bb21 2
      have cb3 := Joins.cell_of_block bb21 3
      have cb4 := Joins.cell_of_block bb21 4
      have cb5 := Joins.cell_of_block bb21 5
      have cb6 := Joins.cell_of_block bb21 6
      have cb7 := Joins.cell_of_block bb21 7
      have cb8 := Joins.cell_of_block bb21 8
      have cb9 := Joins.cell_of_block bb21 9
      go_wp2_with fail
      refine (PE.out _).mono ?_
      rintro e w22 ⟨he, hb22⟩
      unfold spV at he
      subst he
      have hs22 := hb22.size
      simp only [World.size_alloc] at hs22
      have hF22 : Below w21.heap.size w21 w22 := (below_then (below_alloc _ _) hb22)
      have hB22 := below_then hB21 hF22
      have zb22 : w.heap.size < w22.heap.size := by omega
      have bb22 := (hF22.block (w.heap.size) zb21).trans bb21
      have zm22 : w21.heap.size < w22.heap.size := by omega
      have bm22 : w22.heap[w21.heap.size]? = some (.cells #[.int .i64 M.num, .int .i64 M.den] 30) := (hb22.block (w21.heap.size) (by simp)).trans (alloc_at w21 (.cells #[.int .i64 M.num, .int .i64 M.den] 30) (by first | rfl | simp))
      clear hb22 hF22 hB21 hs21 zb21 bb21 cb0 cb1 cb2 cb3 cb4 cb5 cb6 cb7 cb8 cb9
      have cb0 := Joins.cell_of_block bb22 0
      have cb1 := Joins.cell_of_block bb22 1
      have cb2 := Joins.cell_of_block bb22 2
      have cb3 := Joins.cell_of_block bb22 3
      have cb4 := Joins.cell_of_block bb22 4
      have cb5 := Joins.cell_of_block bb22 5
      have cb6 := Joins.cell_of_block bb22 6
      have cb7 := Joins.cell_of_block bb22 7
      have cb8 := Joins.cell_of_block bb22 8
      have cb9 := Joins.cell_of_block bb22 9
      go_wp2_with fail
      refine (PW.out _).mono ?_
      rintro e w23 ⟨hlu, he, hl23, hb23⟩
      obtain ⟨hlA, hlC, rfl⟩ := hl23.form
      subst he
      have hs23 := hb23.size
      simp only [World.size_alloc] at hs23
      have hF23 : Below w22.heap.size w22 w23 := (below_then (below_alloc _ _) hb23)
      have hB23 := below_then hB22 hF23
      have zb23 : w.heap.size < w23.heap.size := by omega
      have bb23 := (hF23.block (w.heap.size) zb22).trans bb22
      have zm23 : w21.heap.size < w23.heap.size := by omega
      have bm23 := (hF23.block (w21.heap.size) zm22).trans bm22
      have zx23 : w22.heap.size < w23.heap.size := by omega
      have bx23 : w23.heap[w22.heap.size]? = some (.cells #[.int .i64 E.lo, .int .i64 E.hi] 35) := (hb23.block (w22.heap.size) (by simp)).trans (alloc_at w22 (.cells #[.int .i64 E.lo, .int .i64 E.hi] 35) (by first | rfl | simp))
      clear hb23 hF23 hB22 hs22 zb22 bb22 zm22 bm22 cb0 cb1 cb2 cb3 cb4 cb5 cb6 cb7 cb8 cb9
      have cb0 := Joins.cell_of_block bb23 0
      have cb1 := Joins.cell_of_block bb23 1
      have cb2 := Joins.cell_of_block bb23 2
      have cb3 := Joins.cell_of_block bb23 3
      have cb4 := Joins.cell_of_block bb23 4
      have cb5 := Joins.cell_of_block bb23 5
      have cb6 := Joins.cell_of_block bb23 6
      have cb7 := Joins.cell_of_block bb23 7
      have cb8 := Joins.cell_of_block bb23 8
      have cb9 := Joins.cell_of_block bb23 9
      go_wp2_with fail
      refine (PN.out _).mono ?_
      rintro e w24 ⟨he, hb24⟩
      unfold rtV at he
      subst he
      have hs24 := hb24.size
      have hF24 : Below w23.heap.size w23 w24 := hb24
      have hB24 := below_then hB23 hF24
      have zb24 : w.heap.size < w24.heap.size := by omega
      have bb24 := (hF24.block (w.heap.size) zb23).trans bb23
      have zm24 : w21.heap.size < w24.heap.size := by omega
      have bm24 := (hF24.block (w21.heap.size) zm23).trans bm23
      have zx24 : w22.heap.size < w24.heap.size := by omega
      have bx24 := (hF24.block (w22.heap.size) zx23).trans bx23
      have hl24 := hl23.later hF24
      clear hb24 hF24 hB23 hs23 zb23 bb23 zm23 bm23 zx23 bx23 hl23 cb0 cb1 cb2 cb3 cb4 cb5 cb6 cb7 cb8 cb9
      have cm0 := Joins.cell_of_block bm24 0
      have cm1 := Joins.cell_of_block bm24 1
      go_wp2_with fail
      obtain ⟨w25, hW⟩ : ∃ w25, w25 = (w24.alloc (.cells #[.int .i64 N.num, .int .i64 N.den] 30)) := ⟨_, rfl⟩
      rw [← hW]
      have hF25 : Below w24.heap.size w24 w25 := by rw [hW]; exact (below_then (below_alloc _ _) (Below.refl _ _))
      have hs25 : w25.heap.size = w24.heap.size + 1 := by rw [hW]; simp
      have hB25 := below_then hB24 hF25
      have zb25 : w.heap.size < w25.heap.size := by omega
      have bb25 := (hF25.block (w.heap.size) zb24).trans bb24
      have zm25 : w21.heap.size < w25.heap.size := by omega
      have bm25 := (hF25.block (w21.heap.size) zm24).trans bm24
      have zx25 : w22.heap.size < w25.heap.size := by omega
      have bx25 := (hF25.block (w22.heap.size) zx24).trans bx24
      have zp25 : w24.heap.size < w25.heap.size := by omega
      have bp25 : w25.heap[w24.heap.size]? = some (.cells #[.int .i64 N.num, .int .i64 N.den] 30) := by rw [hW]; exact (alloc_at w24 (.cells #[.int .i64 N.num, .int .i64 N.den] 30) (by first | rfl | simp))
      have hl25 := hl24.later hF25
      replace hs25 : w24.heap.size ≤ w25.heap.size := by omega
      clear hW hF25 hB24 hs24 zb24 bb24 zm24 bm24 zx24 bx24 hl24 cm0 cm1
      go_loopw [16, 17, 18] (fun v u i wr => ∃ k : Nat, k ≤ L.length ∧ i = .int .i64 k ∧ v = .int .i64 (momQ L k) ∧ u = .int .i64 (allQ L k) ∧ w25 = wr) (fun _ _ i _ => L.length - (intOf i).toNat)
      case atStart => exact ⟨0, by omega, rfl, rfl, rfl, rfl⟩
      case round =>
        obtain ⟨k, hkk, rfl, rfl, rfl, rfl⟩ := hrel
        by_cases hkl : k < L.length
        · have dkl : decide ((k : Int) < (L.length : Int)) = true := decide_eq_true (by omega)
          obtain ⟨qA, qcap, qe, q1, q2, q3⟩ := Ints.open_ hl25
          cases qe
          obtain ⟨qb, qoff, qx, rfl, qB, qX, qc⟩ := q3 k hkl
          have s1 := allQ_step qX
          have s2 := momQ_step qX
          have b0 := LAM.out.1 k (by omega)
          have b1 := LAM.out.1 (k + 1) (by omega)
          have b2 := LAM.out.2 k (by omega)
          have b3 := LAM.out.2 (k + 1) (by omega)
          rw [s1] at b1
          rw [s2] at b3
          have HS1 := Lib.hid s1
          have HS2 := Lib.hid s2
          clear s1 s2 q3
          obtain ⟨b01, b02⟩ := b0
          obtain ⟨b11, b12⟩ := b1
          obtain ⟨b21, b22⟩ := b2
          obtain ⟨b31, b32⟩ := b3
          have b4 : -24795926647405200 ≤ (k : Int) * qx ∧ (k : Int) * qx ≤ 24795926647405200 := by omega
          generalize momQ L k = mk at *
          generalize allQ L k = ak at *
          go_wp2
          go_roundw
          case rel => exact ⟨k + 1, by omega, by go_num, by rw [HS2.out], by rw [HS1.out], by first | rfl | trivial⟩
          case measure => simp [intOf]; omega
        · obtain rfl : k = L.length := by omega
          have dkl : decide ((L.length : Int) < (L.length : Int)) = false := decide_eq_false (by omega)
          obtain ⟨e1, e2⟩ := HEE.out
          rw [e1, e2]
          clear e1 e2
          have cb0 := Joins.cell_of_block bb25 0
          have cb1 := Joins.cell_of_block bb25 1
          have cb2 := Joins.cell_of_block bb25 2
          have cb3 := Joins.cell_of_block bb25 3
          have cb4 := Joins.cell_of_block bb25 4
          have cb5 := Joins.cell_of_block bb25 5
          have cb6 := Joins.cell_of_block bb25 6
          have cb7 := Joins.cell_of_block bb25 7
          have cb8 := Joins.cell_of_block bb25 8
          have cb9 := Joins.cell_of_block bb25 9
          have cm0 := Joins.cell_of_block bm25 0
          have cm1 := Joins.cell_of_block bm25 1
          have cx0 := Joins.cell_of_block bx25 0
          have cx1 := Joins.cell_of_block bx25 1
          have cp0 := Joins.cell_of_block bp25 0
          have cp1 := Joins.cell_of_block bp25 1
          go_wp2_with fail
          refine wp_region_grown (by kernel_rfl) (by kernel_rfl) fun hcg => ?_
          repeat (go_big_quiet_step (fail))
          refine wpQuiet_nil ?_
          intro _ hw'
          obtain ⟨g, hw''⟩ := hw'
          subst hw''
          have hb26 := g.b
          clear hcg
          generalize g.val = w26 at *
          clear g
          have hs26 := hb26.size
          have hF26 : Below w25.heap.size w25 w26 := hb26
          have hB26 := below_then hB25 hF26
          have zb26 : w.heap.size < w26.heap.size := by omega
          have bb26 := (hF26.block (w.heap.size) zb25).trans bb25
          have zm26 : w21.heap.size < w26.heap.size := by omega
          have bm26 := (hF26.block (w21.heap.size) zm25).trans bm25
          have zx26 : w22.heap.size < w26.heap.size := by omega
          have bx26 := (hF26.block (w22.heap.size) zx25).trans bx25
          have zp26 : w24.heap.size < w26.heap.size := by omega
          have bp26 := (hF26.block (w24.heap.size) zp25).trans bp25
          have hl26 := hl25.later hF26
          clear hb26 hF26 hB25 hs25 zb25 bb25 zm25 bm25 zx25 bx25 zp25 bp25 hl25 cb0 cb1 cb2 cb3 cb4 cb5 cb6 cb7 cb8 cb9 cm0 cm1 cx0 cx1 cp0 cp1
          have cb0 := Joins.cell_of_block bb26 0
          have cb1 := Joins.cell_of_block bb26 1
          have cb2 := Joins.cell_of_block bb26 2
          have cb3 := Joins.cell_of_block bb26 3
          have cb4 := Joins.cell_of_block bb26 4
          have cb5 := Joins.cell_of_block bb26 5
          have cb6 := Joins.cell_of_block bb26 6
          have cb7 := Joins.cell_of_block bb26 7
          have cb8 := Joins.cell_of_block bb26 8
          have cb9 := Joins.cell_of_block bb26 9
          have cp0 := Joins.cell_of_block bp26 0
          have cp1 := Joins.cell_of_block bp26 1
          go_wp2_with fail
          refine wp_region_grown (by kernel_rfl) (by kernel_rfl) fun hcg => ?_
          repeat (go_big_quiet_step (fail))
          refine wpQuiet_nil ?_
          intro _ hw'
          obtain ⟨g, hw''⟩ := hw'
          subst hw''
          have hb27 := g.b
          clear hcg
          generalize g.val = w27 at *
          clear g
          have hs27 := hb27.size
          have hF27 : Below w26.heap.size w26 w27 := hb27
          have hB27 := below_then hB26 hF27
          have zb27 : w.heap.size < w27.heap.size := by omega
          have bb27 := (hF27.block (w.heap.size) zb26).trans bb26
          have zm27 : w21.heap.size < w27.heap.size := by omega
          have bm27 := (hF27.block (w21.heap.size) zm26).trans bm26
          have zx27 : w22.heap.size < w27.heap.size := by omega
          have bx27 := (hF27.block (w22.heap.size) zx26).trans bx26
          have zp27 : w24.heap.size < w27.heap.size := by omega
          have bp27 := (hF27.block (w24.heap.size) zp26).trans bp26
          have hl27 := hl26.later hF27
          clear hb27 hF27 hB26 hs26 zb26 bb26 zm26 bm26 zx26 bx26 zp26 bp26 hl26 cb0 cb1 cb2 cb3 cb4 cb5 cb6 cb7 cb8 cb9 cp0 cp1
          go_wp2_with fail
          go_roundw
          case rel => exact ⟨2, by omega, by go_num, by first | rfl | simp, by first | (rw [HS.out]) | (congr 1; rw [← HS.out]), hB27, zb27, bb27⟩
          case measure => simp [intOf]
    · have es : b.s.get 2 = b.s.c := rfl
      have hk := kind_sort HC.out (s := 2) (by omega) (by omega)
      have er := ends_range HC.out 2
      have em := mom_ends HC.out 2
      have eT : totalI (weightsL b 2) = T := by rw [total_same HR.out 2 0, HT.out]
      have pm := fun w => S.Mean b 2 w
      rw [meanR_ok hk, eT] at pm
      have pe := fun w => S.Ends b 2 w
      rw [endsR_ok hk] at pe
      have pw := fun w => S.Weights b 2 w
      rw [hk, if_pos rfl] at pw
      have pn := fun w => S.Next b 2 w
      rw [nextR_ok hk (by rw [N7.out]; omega)] at pn
      rw [eT] at em
      have eM := mom_shift (weightsL b 2) (b.s.get 2)
      rw [eT, es] at eM
      have eN := mom_nonneg HR.out 2 (d := b.s.get 2) (Int.le_refl _)
      rw [es] at eN
      have eL := weights_len b 2
      have LA := fun k hk => allQ_le (l := weightsL b 2) (weights_nonneg b 2) (j := k) hk
      have LM := fun k hk => momQ_le (l := weightsL b 2) (weights_nonneg b 2) (by rw [eL]; omega) (j := k) hk
      have aE := allQ_end (weightsL b 2)
      have mE := momQ_end (weightsL b 2)
      rw [eT] at aE LA LM
      have HS : Hid (momT b 2 + momI (weightsL b 2) 0 = momT b 3) := rfl
      have m0 : 0 ≤ momI (weightsL b 2) 0 := by rw [← mE]; exact (LM _ (Nat.le_refl _)).1
      have rm := ratio_parts m0 (show 0 < T by omega)
      rw [N7.out, eT, es] at pn
      have f1 : T ≤ (b.n - (b.s.a + b.s.b + b.s.c)) * T := by have := Int.mul_le_mul_of_nonneg_right (show 1 ≤ b.n - (b.s.a + b.s.b + b.s.c) by omega) (show 0 ≤ T by omega); omega
      have f2 : (b.n - (b.s.a + b.s.b + b.s.c)) * T ≤ 50 * T := Int.mul_le_mul_of_nonneg_right (by omega) (by omega)
      have rn := ratio_parts eN (show 0 < (b.n - (b.s.a + b.s.b + b.s.c)) * T by omega)
      rw [show b.n - (b.s.a + b.s.b + b.s.c) = b.n - b.s.a - b.s.b - b.s.c by omega] at pn rn f1 f2
      generalize ratioI (momI (weightsL b 2) b.s.c) ((b.n - b.s.a - b.s.b - b.s.c) * T) = N at *
      generalize ratioI (momI (weightsL b 2) 0) T = M at *
      rw [eM] at rn eN
      generalize momI (weightsL b 2) b.s.c = m1 at *
      generalize hm : momI (weightsL b 2) 0 = m2 at *
      generalize weightsL b 2 = L at *
      generalize endsI b 2 = E at *
      clear hm
      obtain ⟨rm1, rm2, rm3, rm4, rm5, rm6, rm7, rm8⟩ := rm
      have g1 : 0 ≤ E.lo * T ∧ E.lo * T ≤ 50 * T := ⟨Int.mul_nonneg er.1 (by omega), Int.mul_le_mul_of_nonneg_right (by omega) (by omega)⟩
      have g2 : 0 ≤ E.hi * T ∧ E.hi * T ≤ 50 * T := ⟨Int.mul_nonneg (by omega) (by omega), Int.mul_le_mul_of_nonneg_right (by omega) (by omega)⟩
      have g3 : 0 ≤ b.s.c * T ∧ b.s.c * T ≤ 50 * T := ⟨Int.mul_nonneg (by omega) (by omega), Int.mul_le_mul_of_nonneg_right (by omega) (by omega)⟩
      have mm := LM L.length (Nat.le_refl _)
      rw [mE] at mm
      have d1 : decide (M.den < 1) = false := decide_eq_false (by omega)
      have d2 : decide (T < 1) = false := decide_eq_false (by omega)
      have d3 : decide (m2 < E.lo * T) = false := decide_eq_false (by omega)
      have d4 : decide (m2 > E.hi * T) = false := decide_eq_false (by omega)
      have d5 : (T != T) = false := by simp
      have d6 : ((b.n - b.s.a - b.s.b - b.s.c) == 0) = false := by rw [beq_eq_false_iff_ne]; omega
      obtain ⟨rn1, rn2, rn3, rn4, rn5, rn6, rn7, rn8⟩ := rn
      have d7 : decide (N.den < 1) = false := decide_eq_false (by omega)
      have PM := Lib.hid pm
      have PE := Lib.hid pe
      have PW := Lib.hid pw
      have PN := Lib.hid pn
      have LAM := Lib.hid (And.intro LA LM)
      have HEE := Lib.hid (And.intro aE mE)
      clear pm pe pw pn LA LM aE mE eM eL em es eT hk
      obtain ⟨g11, g12⟩ := g1
      obtain ⟨g21, g22⟩ := g2
      obtain ⟨g31, g32⟩ := g3
      obtain ⟨mm1, mm2⟩ := mm
      have cb0 := Joins.cell_of_block bb20 0
      have cb1 := Joins.cell_of_block bb20 1
      have cb2 := Joins.cell_of_block bb20 2
      have cb3 := Joins.cell_of_block bb20 3
      have cb4 := Joins.cell_of_block bb20 4
      have cb5 := Joins.cell_of_block bb20 5
      have cb6 := Joins.cell_of_block bb20 6
      have cb7 := Joins.cell_of_block bb20 7
      have cb8 := Joins.cell_of_block bb20 8
      have cb9 := Joins.cell_of_block bb20 9
      go_wp2_with fail
      refine (PM.out _).mono ?_
      rintro e w21 ⟨he, hb21⟩
      unfold rtV at he
      subst he
      have hs21 := hb21.size
      have hF21 : Below w20.heap.size w20 w21 := hb21
      have hB21 := below_then hB20 hF21
      have zb21 : w.heap.size < w21.heap.size := by omega
      have bb21 := (hF21.block (w.heap.size) zb20).trans bb20
      clear hb21 hF21 hB20 hs20 zb20 bb20 cb0 cb1 cb2 cb3 cb4 cb5 cb6 cb7 cb8 cb9
      have cb0 := Joins.cell_of_block bb21 0
      have cb1 := Joins.cell_of_block bb21 1
      have cb2 := Joins.cell_of_block bb21 2
      have cb3 := Joins.cell_of_block bb21 3
      have cb4 := Joins.cell_of_block bb21 4
      have cb5 := Joins.cell_of_block bb21 5
      have cb6 := Joins.cell_of_block bb21 6
      have cb7 := Joins.cell_of_block bb21 7
      have cb8 := Joins.cell_of_block bb21 8
      have cb9 := Joins.cell_of_block bb21 9
      go_wp2_with fail
      refine (PE.out _).mono ?_
      rintro e w22 ⟨he, hb22⟩
      unfold spV at he
      subst he
      have hs22 := hb22.size
      simp only [World.size_alloc] at hs22
      have hF22 : Below w21.heap.size w21 w22 := (below_then (below_alloc _ _) hb22)
      have hB22 := below_then hB21 hF22
      have zb22 : w.heap.size < w22.heap.size := by omega
      have bb22 := (hF22.block (w.heap.size) zb21).trans bb21
      have zm22 : w21.heap.size < w22.heap.size := by omega
      have bm22 : w22.heap[w21.heap.size]? = some (.cells #[.int .i64 M.num, .int .i64 M.den] 30) := (hb22.block (w21.heap.size) (by simp)).trans (alloc_at w21 (.cells #[.int .i64 M.num, .int .i64 M.den] 30) (by first | rfl | simp))
      clear hb22 hF22 hB21 hs21 zb21 bb21 cb0 cb1 cb2 cb3 cb4 cb5 cb6 cb7 cb8 cb9
      have cb0 := Joins.cell_of_block bb22 0
      have cb1 := Joins.cell_of_block bb22 1
      have cb2 := Joins.cell_of_block bb22 2
      have cb3 := Joins.cell_of_block bb22 3
      have cb4 := Joins.cell_of_block bb22 4
      have cb5 := Joins.cell_of_block bb22 5
      have cb6 := Joins.cell_of_block bb22 6
      have cb7 := Joins.cell_of_block bb22 7
      have cb8 := Joins.cell_of_block bb22 8
      have cb9 := Joins.cell_of_block bb22 9
      go_wp2_with fail
      refine (PW.out _).mono ?_
      rintro e w23 ⟨hlu, he, hl23, hb23⟩
      obtain ⟨hlA, hlC, rfl⟩ := hl23.form
      subst he
      have hs23 := hb23.size
      simp only [World.size_alloc] at hs23
      have hF23 : Below w22.heap.size w22 w23 := (below_then (below_alloc _ _) hb23)
      have hB23 := below_then hB22 hF23
      have zb23 : w.heap.size < w23.heap.size := by omega
      have bb23 := (hF23.block (w.heap.size) zb22).trans bb22
      have zm23 : w21.heap.size < w23.heap.size := by omega
      have bm23 := (hF23.block (w21.heap.size) zm22).trans bm22
      have zx23 : w22.heap.size < w23.heap.size := by omega
      have bx23 : w23.heap[w22.heap.size]? = some (.cells #[.int .i64 E.lo, .int .i64 E.hi] 35) := (hb23.block (w22.heap.size) (by simp)).trans (alloc_at w22 (.cells #[.int .i64 E.lo, .int .i64 E.hi] 35) (by first | rfl | simp))
      clear hb23 hF23 hB22 hs22 zb22 bb22 zm22 bm22 cb0 cb1 cb2 cb3 cb4 cb5 cb6 cb7 cb8 cb9
      have cb0 := Joins.cell_of_block bb23 0
      have cb1 := Joins.cell_of_block bb23 1
      have cb2 := Joins.cell_of_block bb23 2
      have cb3 := Joins.cell_of_block bb23 3
      have cb4 := Joins.cell_of_block bb23 4
      have cb5 := Joins.cell_of_block bb23 5
      have cb6 := Joins.cell_of_block bb23 6
      have cb7 := Joins.cell_of_block bb23 7
      have cb8 := Joins.cell_of_block bb23 8
      have cb9 := Joins.cell_of_block bb23 9
      go_wp2_with fail
      refine (PN.out _).mono ?_
      rintro e w24 ⟨he, hb24⟩
      unfold rtV at he
      subst he
      have hs24 := hb24.size
      have hF24 : Below w23.heap.size w23 w24 := hb24
      have hB24 := below_then hB23 hF24
      have zb24 : w.heap.size < w24.heap.size := by omega
      have bb24 := (hF24.block (w.heap.size) zb23).trans bb23
      have zm24 : w21.heap.size < w24.heap.size := by omega
      have bm24 := (hF24.block (w21.heap.size) zm23).trans bm23
      have zx24 : w22.heap.size < w24.heap.size := by omega
      have bx24 := (hF24.block (w22.heap.size) zx23).trans bx23
      have hl24 := hl23.later hF24
      clear hb24 hF24 hB23 hs23 zb23 bb23 zm23 bm23 zx23 bx23 hl23 cb0 cb1 cb2 cb3 cb4 cb5 cb6 cb7 cb8 cb9
      have cm0 := Joins.cell_of_block bm24 0
      have cm1 := Joins.cell_of_block bm24 1
      go_wp2_with fail
      obtain ⟨w25, hW⟩ : ∃ w25, w25 = (w24.alloc (.cells #[.int .i64 N.num, .int .i64 N.den] 30)) := ⟨_, rfl⟩
      rw [← hW]
      have hF25 : Below w24.heap.size w24 w25 := by rw [hW]; exact (below_then (below_alloc _ _) (Below.refl _ _))
      have hs25 : w25.heap.size = w24.heap.size + 1 := by rw [hW]; simp
      have hB25 := below_then hB24 hF25
      have zb25 : w.heap.size < w25.heap.size := by omega
      have bb25 := (hF25.block (w.heap.size) zb24).trans bb24
      have zm25 : w21.heap.size < w25.heap.size := by omega
      have bm25 := (hF25.block (w21.heap.size) zm24).trans bm24
      have zx25 : w22.heap.size < w25.heap.size := by omega
      have bx25 := (hF25.block (w22.heap.size) zx24).trans bx24
      have zp25 : w24.heap.size < w25.heap.size := by omega
      have bp25 : w25.heap[w24.heap.size]? = some (.cells #[.int .i64 N.num, .int .i64 N.den] 30) := by rw [hW]; exact (alloc_at w24 (.cells #[.int .i64 N.num, .int .i64 N.den] 30) (by first | rfl | simp))
      have hl25 := hl24.later hF25
      replace hs25 : w24.heap.size ≤ w25.heap.size := by omega
      clear hW hF25 hB24 hs24 zb24 bb24 zm24 bm24 zx24 bx24 hl24 cm0 cm1
      go_loopw [16, 17, 18] (fun v u i wr => ∃ k : Nat, k ≤ L.length ∧ i = .int .i64 k ∧ v = .int .i64 (momQ L k) ∧ u = .int .i64 (allQ L k) ∧ w25 = wr) (fun _ _ i _ => L.length - (intOf i).toNat)
      case atStart => exact ⟨0, by omega, rfl, rfl, rfl, rfl⟩
      case round =>
        obtain ⟨k, hkk, rfl, rfl, rfl, rfl⟩ := hrel
        by_cases hkl : k < L.length
        · have dkl : decide ((k : Int) < (L.length : Int)) = true := decide_eq_true (by omega)
          obtain ⟨qA, qcap, qe, q1, q2, q3⟩ := Ints.open_ hl25
          cases qe
          obtain ⟨qb, qoff, qx, rfl, qB, qX, qc⟩ := q3 k hkl
          have s1 := allQ_step qX
          have s2 := momQ_step qX
          have b0 := LAM.out.1 k (by omega)
          have b1 := LAM.out.1 (k + 1) (by omega)
          have b2 := LAM.out.2 k (by omega)
          have b3 := LAM.out.2 (k + 1) (by omega)
          rw [s1] at b1
          rw [s2] at b3
          have HS1 := Lib.hid s1
          have HS2 := Lib.hid s2
          clear s1 s2 q3
          obtain ⟨b01, b02⟩ := b0
          obtain ⟨b11, b12⟩ := b1
          obtain ⟨b21, b22⟩ := b2
          obtain ⟨b31, b32⟩ := b3
          have b4 : -24795926647405200 ≤ (k : Int) * qx ∧ (k : Int) * qx ≤ 24795926647405200 := by omega
          generalize momQ L k = mk at *
          generalize allQ L k = ak at *
          go_wp2
          go_roundw
          case rel => exact ⟨k + 1, by omega, by go_num, by rw [HS2.out], by rw [HS1.out], by first | rfl | trivial⟩
          case measure => simp [intOf]; omega
        · obtain rfl : k = L.length := by omega
          have dkl : decide ((L.length : Int) < (L.length : Int)) = false := decide_eq_false (by omega)
          obtain ⟨e1, e2⟩ := HEE.out
          rw [e1, e2]
          clear e1 e2
          have cb0 := Joins.cell_of_block bb25 0
          have cb1 := Joins.cell_of_block bb25 1
          have cb2 := Joins.cell_of_block bb25 2
          have cb3 := Joins.cell_of_block bb25 3
          have cb4 := Joins.cell_of_block bb25 4
          have cb5 := Joins.cell_of_block bb25 5
          have cb6 := Joins.cell_of_block bb25 6
          have cb7 := Joins.cell_of_block bb25 7
          have cb8 := Joins.cell_of_block bb25 8
          have cb9 := Joins.cell_of_block bb25 9
          have cm0 := Joins.cell_of_block bm25 0
          have cm1 := Joins.cell_of_block bm25 1
          have cx0 := Joins.cell_of_block bx25 0
          have cx1 := Joins.cell_of_block bx25 1
          have cp0 := Joins.cell_of_block bp25 0
          have cp1 := Joins.cell_of_block bp25 1
          go_wp2_with fail
          refine wp_region_grown (by kernel_rfl) (by kernel_rfl) fun hcg => ?_
          repeat (go_big_quiet_step (fail))
          refine wpQuiet_nil ?_
          intro _ hw'
          obtain ⟨g, hw''⟩ := hw'
          subst hw''
          have hb26 := g.b
          clear hcg
          generalize g.val = w26 at *
          clear g
          have hs26 := hb26.size
          have hF26 : Below w25.heap.size w25 w26 := hb26
          have hB26 := below_then hB25 hF26
          have zb26 : w.heap.size < w26.heap.size := by omega
          have bb26 := (hF26.block (w.heap.size) zb25).trans bb25
          have zm26 : w21.heap.size < w26.heap.size := by omega
          have bm26 := (hF26.block (w21.heap.size) zm25).trans bm25
          have zx26 : w22.heap.size < w26.heap.size := by omega
          have bx26 := (hF26.block (w22.heap.size) zx25).trans bx25
          have zp26 : w24.heap.size < w26.heap.size := by omega
          have bp26 := (hF26.block (w24.heap.size) zp25).trans bp25
          have hl26 := hl25.later hF26
          clear hb26 hF26 hB25 hs25 zb25 bb25 zm25 bm25 zx25 bx25 zp25 bp25 hl25 cb0 cb1 cb2 cb3 cb4 cb5 cb6 cb7 cb8 cb9 cm0 cm1 cx0 cx1 cp0 cp1
          have cb0 := Joins.cell_of_block bb26 0
          have cb1 := Joins.cell_of_block bb26 1
          have cb2 := Joins.cell_of_block bb26 2
          have cb3 := Joins.cell_of_block bb26 3
          have cb4 := Joins.cell_of_block bb26 4
          have cb5 := Joins.cell_of_block bb26 5
          have cb6 := Joins.cell_of_block bb26 6
          have cb7 := Joins.cell_of_block bb26 7
          have cb8 := Joins.cell_of_block bb26 8
          have cb9 := Joins.cell_of_block bb26 9
          have cp0 := Joins.cell_of_block bp26 0
          have cp1 := Joins.cell_of_block bp26 1
          go_wp2_with fail
          refine wp_region_grown (by kernel_rfl) (by kernel_rfl) fun hcg => ?_
          repeat (go_big_quiet_step (fail))
          refine wpQuiet_nil ?_
          intro _ hw'
          obtain ⟨g, hw''⟩ := hw'
          subst hw''
          have hb27 := g.b
          clear hcg
          generalize g.val = w27 at *
          clear g
          have hs27 := hb27.size
          have hF27 : Below w26.heap.size w26 w27 := hb27
          have hB27 := below_then hB26 hF27
          have zb27 : w.heap.size < w27.heap.size := by omega
          have bb27 := (hF27.block (w.heap.size) zb26).trans bb26
          have zm27 : w21.heap.size < w27.heap.size := by omega
          have bm27 := (hF27.block (w21.heap.size) zm26).trans bm26
          have zx27 : w22.heap.size < w27.heap.size := by omega
          have bx27 := (hF27.block (w22.heap.size) zx26).trans bx26
          have zp27 : w24.heap.size < w27.heap.size := by omega
          have bp27 := (hF27.block (w24.heap.size) zp26).trans bp26
          have hl27 := hl26.later hF27
          clear hb27 hF27 hB26 hs26 zb26 bb26 zm26 bm26 zx26 bx26 zp26 bp26 hl26 cb0 cb1 cb2 cb3 cb4 cb5 cb6 cb7 cb8 cb9 cp0 cp1
          go_wp2_with fail
          go_roundw
          case rel => exact ⟨3, by omega, by go_num, by first | rfl | simp, by first | (rw [HS.out]) | (congr 1; rw [← HS.out]), hB27, zb27, bb27⟩
          case measure => simp [intOf]
    · rw [HA.out] at hb51 hb52 ⊢
      simp only [show (3 : Nat) ≠ 0 by omega, if_false]
      have cb0 := Joins.cell_of_block bb20 0
      have cb1 := Joins.cell_of_block bb20 1
      have cb2 := Joins.cell_of_block bb20 2
      have cb3 := Joins.cell_of_block bb20 3
      have cb4 := Joins.cell_of_block bb20 4
      have cb5 := Joins.cell_of_block bb20 5
      have cb6 := Joins.cell_of_block bb20 6
      have cb7 := Joins.cell_of_block bb20 7
      have cb8 := Joins.cell_of_block bb20 8
      have cb9 := Joins.cell_of_block bb20 9
      go_wp2_with fail
      go_ret
      exact ⟨rfl, hB20⟩
end Go.Proofs.Ytihgkeokhfmccaa
