/- Batches together: their spans lie within Ends, are reached, get no wider by a narrower sum, and are Ends if the sum may be anything. -/
import Derived.Test.YtihgkeokhfmccaaJ12
import Derived.Test.YtihgkeokhfmccaaZ3MathG
namespace Go.Proofs.Ytihgkeokhfmccaa
open Go Go.RowKit

set_option maxHeartbeats 3200000 in
set_option maxRecDepth 100000 in
theorem SampleSums_w (S : Sam) (l : List Bt) (sort : Int) (p : Sp) (at_ hg : Int) (v : Value) (w : World) (hv0 : Bts w w.heap.size v l) (ha : 0 ≤ at_ ∧ at_ ≤ 255) (hb : 0 ≤ hg ∧ hg ≤ 255) : Calls Try.prog 21 #[v, .int .i64 sort, spV p, .int .u8 at_, .int .u8 hg] w fun e w' => e = .returned (.bool true) ∧ Below w.heap.size w w' := by
  have eqRt := Try.eqRt
  have eqSp := Try.eqSp
  have eqTr := Try.eqTr
  have eqBt := Try.eqBt
  have neRt := Try.neRt
  have neBt := Try.neBt
  have eqK3 := Try.eqK3
  have neSp := Try.neSp
  obtain ⟨A0, cap0, rfl⟩ := hv0.form
  by_cases h6 : 6 < l.length
  · have d1 : decide ((l.length : Int) > 6) = true := decide_eq_true (by omega)
    clear h6
    unfold spV
    go_enter Try.func21, Try.ntmps21
    go_wp2_with fail
    refine (head_c S _).mono ?_
    rintro e w1 ⟨he, hb1⟩
    subst he
    have hs1 := hb1.size
    simp only [World.size_alloc] at hs1
    have hF1 : Below w.heap.size w w1 := (below_then (below_alloc _ _) hb1)
    have hB1 := hF1
    have zp1 : w.heap.size < w1.heap.size := by omega
    have bp1 : w1.heap[w.heap.size]? = some (.cells #[.int .i64 p.lo, .int .i64 p.hi] 35) := (hb1.block (w.heap.size) (by simp)).trans (alloc_at w (.cells #[.int .i64 p.lo, .int .i64 p.hi] 35) (by first | rfl | simp))
    have hv1 := hv0.later hF1
    clear hb1 hF1  hv0
    go_wp2_with fail
    go_ret
    exact ⟨rfl, hB1⟩
  · have d1 : decide ((l.length : Int) > 6) = false := decide_eq_false (by omega)
    by_cases hE : togetherE l sort p = 0
    · have p1 := fun (v : Value) (w : World) (h : Bts w w.heap.size v l) => S.Together l sort p v w h
      have p2 := fun (v : Value) (w : World) (h : Bts w w.heap.size v l) => S.Together l sort ⟨-1, 1000⟩ v w h
      obtain ⟨h12, hall, hs, hp1, hp2, hp3⟩ := tog_ok hE
      have hE2 : togetherE l sort ⟨-1, 1000⟩ = 0 := by
        have := tog_sums hall sort
        rw [tog_of h12 hall hs (by simp only; omega), if_neg (by simp only; omega)]
      have eX : togetherL l sort p = l.map (nearI l sort p) := by unfold togetherL; rw [if_pos hE]
      have eW : togetherL l sort ⟨-1, 1000⟩ = l.map (fun b => endsI b sort) := by
        unfold togetherL
        rw [if_pos hE2]
        exact List.map_congr_left fun b hb => near_wide hall h12 hb
      rw [hE, eX] at p1
      rw [hE2, eW] at p2
      obtain ⟨X, hX⟩ : ∃ X, X = l.map (nearI l sort p) := ⟨_, rfl⟩
      obtain ⟨Y, hY⟩ : ∃ Y, Y = l.map (fun b => endsI b sort) := ⟨_, rfl⟩
      rw [← hX] at p1
      rw [← hY] at p2
      have xl : X.length = l.length := by rw [hX, List.length_map]
      have yl : Y.length = l.length := by rw [hY, List.length_map]
      have hXj : ∀ j b, l[j]? = some b → X[j]? = some (nearI l sort p b) := fun j b h => by rw [hX, List.getElem?_map, h]; rfl
      have hYj : ∀ j b, l[j]? = some b → Y[j]? = some (endsI b sort) := fun j b h => by rw [hY, List.getElem?_map, h]; rfl
      have ts := tog_sums hall sort
      have HN := Lib.hid (fun b (hb : b ∈ l) => near_in hE hb)
      have HE5 := Lib.hid (fun b (hb : b ∈ l) => ends_50 (hall b hb) sort)
      have HSB := Lib.hid (fun j (hj : j ≤ l.length) => sums_bound hall sort j hj)
      have HK := Lib.hid (fun b (hb : b ∈ l) => kind_sort (hall b hb) hs.1 hs.2)
      have HT := Lib.hid (fun (q : Sp) (hq : q.lo ≤ q.hi) => tog_of (q := q) h12 hall hs hq)
      have HXJ := Lib.hid hXj
      have HYJ := Lib.hid hYj
      have P1 := Lib.hid p1
      have P2 := Lib.hid p2
      have HLO : Hid (losP l sort l.length = losI l sort) := rfl
      have HHI : Hid (hisP l sort l.length = hisI l sort) := rfl
      have d2 : ((X.length : Int) != (l.length : Int)) = false := by rw [xl]; simp
      have d3 : ((Y.length : Int) != (l.length : Int)) = false := by rw [yl]; simp
      obtain ⟨ts1, ts2, ts3, -⟩ := ts
      have XL := Lib.hid xl
      have YL := Lib.hid yl
      have HHE := Lib.hid hE
      clear p1 p2 hX hY hXj hYj eX eW hE2 hall hE
      unfold spV
      go_enter Try.func21, Try.ntmps21
      go_wp2_with fail
      refine (head_c S _).mono ?_
      rintro e w1 ⟨he, hb1⟩
      subst he
      have hs1 := hb1.size
      simp only [World.size_alloc] at hs1
      have hF1 : Below w.heap.size w w1 := (below_then (below_alloc _ _) hb1)
      have hB1 := hF1
      have zp1 : w.heap.size < w1.heap.size := by omega
      have bp1 : w1.heap[w.heap.size]? = some (.cells #[.int .i64 p.lo, .int .i64 p.hi] 35) := (hb1.block (w.heap.size) (by simp)).trans (alloc_at w (.cells #[.int .i64 p.lo, .int .i64 p.hi] 35) (by first | rfl | simp))
      have hv1 := hv0.later hF1
      clear hb1 hF1  hv0
      have cp0 := Joins.cell_of_block bp1 0
      have cp1 := Joins.cell_of_block bp1 1
      go_wp2_with fail
      refine (P1.out _ _ hv1).mono ?_
      rintro e w2 ⟨hxu, he, hx2, hb2⟩
      obtain ⟨hxA, hxC, rfl⟩ := hx2.form
      subst he
      have hs2 := hb2.size
      have hF2 : Below w1.heap.size w1 w2 := hb2
      have hB2 := below_then hB1 hF2
      have zp2 : w.heap.size < w2.heap.size := by omega
      have bp2 := (hF2.block (w.heap.size) zp1).trans bp1
      have hv2 := hv1.later hF2
      clear hb2 hF2 hB1 hs1 zp1 bp1 hv1 cp0 cp1
      go_wp2_with fail
      refine (P2.out _ _ hv2).mono ?_
      rintro e w3 ⟨hwu, he, hw3, hb3⟩
      obtain ⟨hwA, hwC, rfl⟩ := hw3.form
      subst he
      have hs3 := hb3.size
      have hF3 : Below w2.heap.size w2 w3 := hb3
      have hB3 := below_then hB2 hF3
      have zp3 : w.heap.size < w3.heap.size := by omega
      have bp3 := (hF3.block (w.heap.size) zp2).trans bp2
      have hv3 := hv2.later hF3
      have hx3 := hx2.later hF3
      clear hb3 hF3 hB2 hs2 zp2 bp2 hv2 hx2
      go_wp2_with fail
      go_loopw [16, 17, 18] (fun a c i wr => ∃ j : Nat, j ≤ l.length ∧ i = .int .i64 j ∧ a = .int .i64 (losP l sort j) ∧ c = .int .i64 (hisP l sort j) ∧ Below w3.heap.size w3 wr) (fun _ _ i _ => l.length - (intOf i).toNat)
      case atStart => exact ⟨0, by omega, rfl, rfl, rfl, Below.refl _ _⟩
      case round =>
        obtain ⟨j, hj, rfl, rfl, rfl, hb20⟩ := hrel
        obtain ⟨w20, rfl⟩ : ∃ wo : World, wo = wr := ⟨_, rfl⟩
        by_cases hlt : j < l.length
        · as_aux_lemma =>
            have dlt : decide ((j : Int) < (l.length : Int)) = true := decide_eq_true (by omega)
            have hv20 := hv3.later hb20
            have hx20 := hx3.later hb20
            have hw20 := hw3.later hb20
            have hs20 := hb20.size
            have zp20 : w.heap.size < w20.heap.size := by omega
            have bp20 := (hb20.block (w.heap.size) zp3).trans bp3
            have hB20 := hb20
            obtain ⟨lA, lcap, le, l1, l2, l3⟩ := Bts.open_ hv20
            cases le
            obtain ⟨lb, loff, x, rfl, lB, lX, lc0, lc1, lc2, lc3, lc4, lc5, lc6, lc7, lc8, lc9⟩ := l3 j hlt
            clear l3
            have hmem : x ∈ l := List.mem_of_getElem? lX
            have N := HN.out x hmem
            have E5 := HE5.out x hmem
            obtain ⟨N1, N2, N3, N4, N5, N6, N7, N8, N9⟩ := N
            obtain ⟨E51, E52, E53⟩ := E5
            have pe := fun w => S.Ends x sort w
            rw [endsR_ok (HK.out x hmem)] at pe
            unfold btV at pe
            have PE := Lib.hid pe
            have b0 := HSB.out j (by omega)
            have b1 := HSB.out (j + 1) (by omega)
            have s1 := losP_step (s := sort) lX
            have s2 := hisP_step (s := sort) lX
            rw [s1, s2] at b1
            have S1 := Lib.hid s1
            have S2 := Lib.hid s2
            obtain ⟨b01, b02, b03⟩ := b0
            obtain ⟨b11, b12, b13⟩ := b1
            clear pe s1 s2 hb20
            go_wp2_with fail
            refine ((PE.out) _).mono ?_
            rintro e w21 ⟨he, hb21⟩
            unfold spV at he
            subst he
            have hs21 := hb21.size
            have hF21 : Below w20.heap.size w20 w21 := hb21
            have hB21 := below_then hB20 hF21
            have zp21 : w.heap.size < w21.heap.size := by omega
            have bp21 := (hF21.block (w.heap.size) zp20).trans bp20
            have hv21 := hv20.later hF21
            have hx21 := hx20.later hF21
            have hw21 := hw20.later hF21
            clear hb21 hF21 hB20 hs20 zp20 bp20 hv20 hx20 hw20
            go_wp2_with fail
            obtain ⟨w22, hW⟩ : ∃ w22, w22 = (w21.alloc (.cells #[.int .i64 (endsI x sort).lo, .int .i64 (endsI x sort).hi] 35)) := ⟨_, rfl⟩
            rw [← hW]
            have hF22 : Below w21.heap.size w21 w22 := by rw [hW]; exact (below_then (below_alloc _ _) (Below.refl _ _))
            have hs22 : w22.heap.size = w21.heap.size + 1 := by rw [hW]; simp
            have hB22 := below_then hB21 hF22
            have zp22 : w.heap.size < w22.heap.size := by omega
            have bp22 := (hF22.block (w.heap.size) zp21).trans bp21
            have zs22 : w21.heap.size < w22.heap.size := by omega
            have bs22 : w22.heap[w21.heap.size]? = some (.cells #[.int .i64 (endsI x sort).lo, .int .i64 (endsI x sort).hi] 35) := by rw [hW]; exact (alloc_at w21 (.cells #[.int .i64 (endsI x sort).lo, .int .i64 (endsI x sort).hi] 35) (by first | rfl | simp))
            have hv22 := hv21.later hF22
            have hx22 := hx21.later hF22
            have hw22 := hw21.later hF22
            replace hs22 : w21.heap.size ≤ w22.heap.size := by omega
            clear hW hF22 hB21 hs21 zp21 bp21 hv21 hx21 hw21
            obtain ⟨mxA, mxcap, mxe, mx1, mx2, mx3⟩ := Sps.open_ hx22
            cases mxe
            obtain ⟨mxb, mxoff, mxx, rfl, mxB, mxX, mxc0, mxc1⟩ := mx3 j (by rw [XL.out]; exact hlt)
            clear mx3
            have mxK := HXJ.out j x lX
            rw [mxK] at mxX
            cases mxX
            have mxX := mxK
            clear mxK
            obtain ⟨myA, mycap, mye, my1, my2, my3⟩ := Sps.open_ hw22
            cases mye
            obtain ⟨myb, myoff, myx, rfl, myB, myX, myc0, myc1⟩ := my3 j (by rw [YL.out]; exact hlt)
            clear my3
            have myK := HYJ.out j x lX
            rw [myK] at myX
            cases myX
            have myX := myK
            clear myK
            generalize endsI x sort = E at *
            generalize nearI l sort p x = Q at *
            have f1 : decide (Q.lo < E.lo) = false := decide_eq_false (by omega)
            have f2 : decide (Q.hi > E.hi) = false := decide_eq_false (by omega)
            have f3 : decide (Q.lo > Q.hi) = false := decide_eq_false (by omega)
            have cs0 := Joins.cell_of_block bs22 0
            have cs1 := Joins.cell_of_block bs22 1
            go_wp2_with fail
            refine wp_region_grown (by kernel_rfl) (by kernel_rfl) fun hcg => ?_
            repeat (go_big_quiet_step (fail))
            refine wpQuiet_nil ?_
            intro _ hw'
            obtain ⟨g, hw''⟩ := hw'
            subst hw''
            have hb23 := g.b
            clear hcg
            generalize g.val = w23 at *
            clear g
            have hs23 := hb23.size
            have hF23 : Below w22.heap.size w22 w23 := hb23
            have hB23 := below_then hB22 hF23
            have zp23 : w.heap.size < w23.heap.size := by omega
            have bp23 := (hF23.block (w.heap.size) zp22).trans bp22
            have zs23 : w21.heap.size < w23.heap.size := by omega
            have bs23 := (hF23.block (w21.heap.size) zs22).trans bs22
            have hv23 := hv22.later hF23
            have hx23 := hx22.later hF23
            have hw23 := hw22.later hF23
            clear hb23 hF23 hB22 hs22 zp22 bp22 zs22 bs22 hv22 hx22 hw22 cs0 cs1
            have cs0 := Joins.cell_of_block bs23 0
            have cs1 := Joins.cell_of_block bs23 1
            go_wp2_with fail
            go_roundw
            case rel => exact ⟨j + 1, by omega, by go_num, by rw [S1.out], by rw [S2.out], hB23⟩
            case measure => simp [intOf]; omega
        · obtain rfl : j = l.length := by omega
          have dlt : decide ((l.length : Int) < (l.length : Int)) = false := decide_eq_false (by omega)
          obtain ⟨w30, rfl⟩ : ∃ wo : World, wo = w20 := ⟨_, rfl⟩
          have hv30 := hv3.later hb20
          have hx30 := hx3.later hb20
          have hw30 := hw3.later hb20
          have hs30 := hb20.size
          have zp30 : w.heap.size < w30.heap.size := by omega
          have bp30 := (hb20.block (w.heap.size) zp3).trans bp3
          have hB30 := below_then hB3 hb20
          clear hb20 hv3 hx3 hw3 bp3 zp3 hB3 hs3
          have HB30 := Lib.hid hs30
          clear hs30
          have hs30 := HB30.out
          rw [HLO.out, HHI.out]
          have cp0 := Joins.cell_of_block bp30 0
          have cp1 := Joins.cell_of_block bp30 1
          go_wp2_with fail
          go_loopw [21] (fun i wr => ∃ j : Nat, j ≤ l.length ∧ i = .int .i64 j ∧ Below w30.heap.size w30 wr) (fun i _ => l.length - (intOf i).toNat)
          case atStart => exact ⟨0, by omega, rfl, Below.refl _ _⟩
          case round =>
            clear cp0 cp1
            obtain ⟨j, hj, rfl, hb40⟩ := hrel
            obtain ⟨w40, rfl⟩ : ∃ wo : World, wo = wr := ⟨_, rfl⟩
            by_cases hlt : j < l.length
            · have dlt : decide ((j : Int) < (l.length : Int)) = true := decide_eq_true (by omega)
              have hv40 := hv30.later hb40
              have hx40 := hx30.later hb40
              have hw40 := hw30.later hb40
              have hs40 := hb40.size
              have zp40 : w.heap.size < w40.heap.size := by omega
              have bp40 := (hb40.block (w.heap.size) zp30).trans bp30
              have hB40 := hb40
              obtain ⟨lA, lcap, le, l1, l2, l3⟩ := Bts.open_ hv40
              cases le
              obtain ⟨lb, loff, x, rfl, lB, lX, lc0, lc1, lc2, lc3, lc4, lc5, lc6, lc7, lc8, lc9⟩ := l3 j hlt
              clear l3
              have hmem : x ∈ l := List.mem_of_getElem? lX
              have N := HN.out x hmem
              have E5 := HE5.out x hmem
              obtain ⟨N1, N2, N3, N4, N5, N6, N7, N8, N9⟩ := N
              obtain ⟨E51, E52, E53⟩ := E5
              obtain ⟨mxA, mxcap, mxe, mx1, mx2, mx3⟩ := Sps.open_ hx40
              cases mxe
              obtain ⟨mxb, mxoff, mxx, rfl, mxB, mxX, mxc0, mxc1⟩ := mx3 j (by rw [XL.out]; exact hlt)
              clear mx3
              have mxK := HXJ.out j x lX
              rw [mxK] at mxX
              cases mxX
              have mxX := mxK
              clear mxK
              obtain ⟨myA, mycap, mye, my1, my2, my3⟩ := Sps.open_ hw40
              cases mye
              obtain ⟨myb, myoff, myx, rfl, myB, myX, myc0, myc1⟩ := my3 j (by rw [YL.out]; exact hlt)
              clear my3
              have myK := HYJ.out j x lX
              rw [myK] at myX
              cases myX
              have myX := myK
              clear myK
              generalize endsI x sort = E at *
              generalize nearI l sort p x = Q at *
              have f1 : decide (Q.lo + (hisI l sort - E.hi) < p.lo) = false := decide_eq_false (by omega)
              have f2 : decide (Q.lo + (losI l sort - E.lo) > p.hi) = false := decide_eq_false (by omega)
              have f3 : decide (Q.hi + (hisI l sort - E.hi) < p.lo) = false := decide_eq_false (by omega)
              have f4 : decide (Q.hi + (losI l sort - E.lo) > p.hi) = false := decide_eq_false (by omega)
              clear hb40 hv40
              have cp0 := Joins.cell_of_block bp40 0
              have cp1 := Joins.cell_of_block bp40 1
              go_wp2_with fail
              refine wp_region_grown (by kernel_rfl) (by kernel_rfl) fun hcg => ?_
              repeat (go_big_quiet_step (fail))
              refine wpQuiet_nil ?_
              intro _ hw'
              obtain ⟨g, hw''⟩ := hw'
              subst hw''
              have hb41 := g.b
              clear hcg
              generalize g.val = w41 at *
              clear g
              have hs41 := hb41.size
              have hF41 : Below w40.heap.size w40 w41 := hb41
              have hB41 := below_then hB40 hF41
              have zp41 : w.heap.size < w41.heap.size := by omega
              have bp41 := (hF41.block (w.heap.size) zp40).trans bp40
              have hx41 := hx40.later hF41
              have hw41 := hw40.later hF41
              clear hb41 hF41 hB40 hs40 zp40 bp40 hx40 hw40 cp0 cp1
              clear mxB mxc0 mxc1 myB myc0 myc1
              obtain ⟨nxA, nxcap, nxe, nx1, nx2, nx3⟩ := Sps.open_ hx41
              cases nxe
              obtain ⟨nxb, nxoff, nxx, nxq, nxB, nxX, nxc0, nxc1⟩ := nx3 j (by rw [XL.out]; exact hlt)
              cases nxq
              clear nx3
              rw [mxX] at nxX
              cases nxX
              obtain ⟨nyA, nycap, nye, ny1, ny2, ny3⟩ := Sps.open_ hw41
              cases nye
              obtain ⟨nyb, nyoff, nyx, nyq, nyB, nyX, nyc0, nyc1⟩ := ny3 j (by rw [YL.out]; exact hlt)
              cases nyq
              clear ny3
              rw [myX] at nyX
              cases nyX
              by_cases hA : Q.lo > E.lo
              · by_cases hB : Q.hi < E.hi
                · as_aux_lemma =>
                    have f5 : decide (Q.lo > E.lo) = true := decide_eq_true hA
                    have f6 : decide (Q.lo - 1 + (hisI l sort - E.hi) ≥ p.lo) = false := decide_eq_false (by have := N8 (by omega); omega)
                    have f7 : decide (Q.hi < E.hi) = true := decide_eq_true hB
                    have f8 : decide (Q.hi + 1 + (losI l sort - E.lo) ≤ p.hi) = false := decide_eq_false (by have := N9 (by omega); omega)
                    clear N8 N9
                    have cp0 := Joins.cell_of_block bp41 0
                    have cp1 := Joins.cell_of_block bp41 1
                    go_wp2_with fail
                    refine wp_region_grown (by kernel_rfl) (by kernel_rfl) fun hcg => ?_
                    repeat (go_big_quiet_step (fail))
                    refine wpQuiet_nil ?_
                    intro _ hw'
                    obtain ⟨g, hw''⟩ := hw'
                    subst hw''
                    have hb42 := g.b
                    clear hcg
                    generalize g.val = w42 at *
                    clear g
                    have hs42 := hb42.size
                    have hF42 : Below w41.heap.size w41 w42 := hb42
                    have hB42 := below_then hB41 hF42
                    have zp42 : w.heap.size < w42.heap.size := by omega
                    have bp42 := (hF42.block (w.heap.size) zp41).trans bp41
                    have hx42 := hx41.later hF42
                    have hw42 := hw41.later hF42
                    clear hb42 hF42 hB41 hs41 zp41 bp41 hx41 hw41 cp0 cp1
                    go_wp2_with fail
                    go_roundw
                    case rel => exact ⟨j + 1, by omega, by go_num, hB42⟩
                    case measure => simp [intOf]; omega
                · as_aux_lemma =>
                    have f5 : decide (Q.lo > E.lo) = true := decide_eq_true hA
                    have f6 : decide (Q.lo - 1 + (hisI l sort - E.hi) ≥ p.lo) = false := decide_eq_false (by have := N8 (by omega); omega)
                    have f7 : decide (Q.hi < E.hi) = false := decide_eq_false hB
                    clear N8 N9
                    have cp0 := Joins.cell_of_block bp41 0
                    have cp1 := Joins.cell_of_block bp41 1
                    go_wp2_with fail
                    refine wp_region_grown (by kernel_rfl) (by kernel_rfl) fun hcg => ?_
                    repeat (go_big_quiet_step (fail))
                    refine wpQuiet_nil ?_
                    intro _ hw'
                    obtain ⟨g, hw''⟩ := hw'
                    subst hw''
                    have hb42 := g.b
                    clear hcg
                    generalize g.val = w42 at *
                    clear g
                    have hs42 := hb42.size
                    have hF42 : Below w41.heap.size w41 w42 := hb42
                    have hB42 := below_then hB41 hF42
                    have zp42 : w.heap.size < w42.heap.size := by omega
                    have bp42 := (hF42.block (w.heap.size) zp41).trans bp41
                    have hx42 := hx41.later hF42
                    have hw42 := hw41.later hF42
                    clear hb42 hF42 hB41 hs41 zp41 bp41 hx41 hw41 cp0 cp1
                    go_wp2_with fail
                    go_roundw
                    case rel => exact ⟨j + 1, by omega, by go_num, hB42⟩
                    case measure => simp [intOf]; omega
              · by_cases hB : Q.hi < E.hi
                · as_aux_lemma =>
                    have f5 : decide (Q.lo > E.lo) = false := decide_eq_false hA
                    have f7 : decide (Q.hi < E.hi) = true := decide_eq_true hB
                    have f8 : decide (Q.hi + 1 + (losI l sort - E.lo) ≤ p.hi) = false := decide_eq_false (by have := N9 (by omega); omega)
                    clear N8 N9
                    have cp0 := Joins.cell_of_block bp41 0
                    have cp1 := Joins.cell_of_block bp41 1
                    go_wp2_with fail
                    refine wp_region_grown (by kernel_rfl) (by kernel_rfl) fun hcg => ?_
                    repeat (go_big_quiet_step (fail))
                    refine wpQuiet_nil ?_
                    intro _ hw'
                    obtain ⟨g, hw''⟩ := hw'
                    subst hw''
                    have hb42 := g.b
                    clear hcg
                    generalize g.val = w42 at *
                    clear g
                    have hs42 := hb42.size
                    have hF42 : Below w41.heap.size w41 w42 := hb42
                    have hB42 := below_then hB41 hF42
                    have zp42 : w.heap.size < w42.heap.size := by omega
                    have bp42 := (hF42.block (w.heap.size) zp41).trans bp41
                    have hx42 := hx41.later hF42
                    have hw42 := hw41.later hF42
                    clear hb42 hF42 hB41 hs41 zp41 bp41 hx41 hw41 cp0 cp1
                    go_wp2_with fail
                    go_roundw
                    case rel => exact ⟨j + 1, by omega, by go_num, hB42⟩
                    case measure => simp [intOf]; omega
                · as_aux_lemma =>
                    have f5 : decide (Q.lo > E.lo) = false := decide_eq_false hA
                    have f7 : decide (Q.hi < E.hi) = false := decide_eq_false hB
                    clear N8 N9
                    have cp0 := Joins.cell_of_block bp41 0
                    have cp1 := Joins.cell_of_block bp41 1
                    go_wp2_with fail
                    refine wp_region_grown (by kernel_rfl) (by kernel_rfl) fun hcg => ?_
                    repeat (go_big_quiet_step (fail))
                    refine wpQuiet_nil ?_
                    intro _ hw'
                    obtain ⟨g, hw''⟩ := hw'
                    subst hw''
                    have hb42 := g.b
                    clear hcg
                    generalize g.val = w42 at *
                    clear g
                    have hs42 := hb42.size
                    have hF42 : Below w41.heap.size w41 w42 := hb42
                    have hB42 := below_then hB41 hF42
                    have zp42 : w.heap.size < w42.heap.size := by omega
                    have bp42 := (hF42.block (w.heap.size) zp41).trans bp41
                    have hx42 := hx41.later hF42
                    have hw42 := hw41.later hF42
                    clear hb42 hF42 hB41 hs41 zp41 bp41 hx41 hw41 cp0 cp1
                    go_wp2_with fail
                    go_roundw
                    case rel => exact ⟨j + 1, by omega, by go_num, hB42⟩
                    case measure => simp [intOf]; omega
            · obtain rfl : j = l.length := by omega
              have dlt : decide ((l.length : Int) < (l.length : Int)) = false := decide_eq_false (by omega)
              obtain ⟨w50, rfl⟩ : ∃ wo : World, wo = w40 := ⟨_, rfl⟩
              have hv50 := hv30.later hb40
              have hx50 := hx30.later hb40
              have hw50 := hw30.later hb40
              have hs50 := hb40.size
              have zp50 : w.heap.size < w50.heap.size := by omega
              have bp50 := (hb40.block (w.heap.size) zp30).trans bp30
              have hB50 := below_then hB30 hb40
              clear hb40 hv30 hx30 hw30 bp30 zp30 hB30 hs30 HB30
              by_cases c1 : p.lo < -1000
              · have g1 : decide (p.lo < -1000) = true := decide_eq_true c1
                have cp0 := Joins.cell_of_block bp50 0
                have cp1 := Joins.cell_of_block bp50 1
                go_wp2_with fail
                go_ret
                exact ⟨rfl, hB50⟩
              · have g1 : decide (p.lo < -1000) = false := decide_eq_false c1
                by_cases c2 : p.hi > 2000
                · have g2 : decide (p.hi > 2000) = true := decide_eq_true c2
                  have cp0 := Joins.cell_of_block bp50 0
                  have cp1 := Joins.cell_of_block bp50 1
                  go_wp2_with fail
                  go_ret
                  exact ⟨rfl, hB50⟩
                · have g2 : decide (p.hi > 2000) = false := decide_eq_false c2
                  by_cases c3 : p.hi - p.lo > 1000
                  · have g3 : decide (p.hi - p.lo > 1000) = true := decide_eq_true c3
                    have cp0 := Joins.cell_of_block bp50 0
                    have cp1 := Joins.cell_of_block bp50 1
                    go_wp2_with fail
                    go_ret
                    exact ⟨rfl, hB50⟩
                  · have g3 : decide (p.hi - p.lo > 1000) = false := decide_eq_false c3
                    obtain ⟨A1, hA1⟩ : ∃ A1, at_ % (p.hi - p.lo + 1) = A1 := ⟨_, rfl⟩
                    have hA12 : at_.tmod (p.hi - p.lo + 1) = A1 := by rw [Int.tmod_eq_emod_of_nonneg ha.1]; exact hA1
                    have A11 : 0 ≤ A1 := by rw [← hA1]; exact Int.emod_nonneg _ (by omega)
                    have A12 : A1 < p.hi - p.lo + 1 := by rw [← hA1]; exact Int.emod_lt_of_pos _ (by omega)
                    obtain ⟨A2, hA2⟩ : ∃ A2, hg % (p.hi - (p.lo + A1) + 1) = A2 := ⟨_, rfl⟩
                    have hA22 : hg.tmod (p.hi - (p.lo + A1) + 1) = A2 := by rw [Int.tmod_eq_emod_of_nonneg hb.1]; exact hA2
                    have A21 : 0 ≤ A2 := by rw [← hA2]; exact Int.emod_nonneg _ (by omega)
                    have A22 : A2 < p.hi - (p.lo + A1) + 1 := by rw [← hA2]; exact Int.emod_lt_of_pos _ (by omega)
                    obtain ⟨ha1, ha2⟩ := ha
                    obtain ⟨hb1, hb2⟩ := hb
                    have p3 := fun (v : Value) (w : World) (h : Bts w w.heap.size v l) => S.Together l sort ⟨p.lo + A1, p.lo + A1 + A2⟩ v w h
                    by_cases h3 : togetherE l sort ⟨p.lo + A1, p.lo + A1 + A2⟩ = 0
                    · as_aux_lemma =>
                        have cp0 := Joins.cell_of_block bp50 0
                        have cp1 := Joins.cell_of_block bp50 1
                        go_wp2_with fail
                        refine wp_region_grown (by kernel_rfl) (by kernel_rfl) fun hcg => ?_
                        repeat (go_big_quiet_step (fail))
                        refine wpQuiet_nil ?_
                        intro _ hw'
                        obtain ⟨g, hw''⟩ := hw'
                        subst hw''
                        have hb51 := g.b
                        clear hcg
                        generalize g.val = w51 at *
                        clear g
                        have hs51 := hb51.size
                        have hF51 : Below w50.heap.size w50 w51 := hb51
                        have hB51 := below_then hB50 hF51
                        have zp51 : w.heap.size < w51.heap.size := by omega
                        have bp51 := (hF51.block (w.heap.size) zp50).trans bp50
                        have hv51 := hv50.later hF51
                        have hx51 := hx50.later hF51
                        have hw51 := hw50.later hF51
                        clear hb51 hF51 hB50 hs50 zp50 bp50 hv50 hx50 hw50 cp0 cp1
                        have cp0 := Joins.cell_of_block bp51 0
                        have cp1 := Joins.cell_of_block bp51 1
                        have eZ : togetherL l sort ⟨p.lo + A1, p.lo + A1 + A2⟩ = l.map (nearI l sort ⟨p.lo + A1, p.lo + A1 + A2⟩) := by unfold togetherL; rw [if_pos h3]
                        rw [h3, eZ] at p3
                        obtain ⟨Z, hZ⟩ : ∃ Z, Z = l.map (nearI l sort ⟨p.lo + A1, p.lo + A1 + A2⟩) := ⟨_, rfl⟩
                        rw [← hZ] at p3
                        have zl : Z.length = l.length := by rw [hZ, List.length_map]
                        have hZj : ∀ j b, l[j]? = some b → Z[j]? = some (nearI l sort ⟨p.lo + A1, p.lo + A1 + A2⟩ b) := fun j b h => by rw [hZ, List.getElem?_map, h]; rfl
                        have HZJ := Lib.hid hZj
                        have ZL := Lib.hid zl
                        have d7 : ((Z.length : Int) != (X.length : Int)) = false := by rw [zl, XL.out]; simp
                        have d8 : ((Z.length : Int) != (l.length : Int)) = false := by rw [zl]; simp
                        have HM := Lib.hid (fun b => near_mono (l := l) (s := sort) (b := b) (p := p) (q := ⟨p.lo + A1, p.lo + A1 + A2⟩) (by simp only; omega) (by simp only; omega))
                        have P3 := Lib.hid p3
                        clear p3 hZ hZj zl eZ h3
                        go_wp2_with fail
                        refine (P3.out _ _ (hv51.alloc _)).mono ?_
                        rintro e w52 ⟨hyu, he, hy52, hb52⟩
                        obtain ⟨hyA, hyC, rfl⟩ := hy52.form
                        subst he
                        have hs52 := hb52.size
                        simp only [World.size_alloc] at hs52
                        have hF52 : Below w51.heap.size w51 w52 := (below_then (below_alloc _ _) hb52)
                        have hB52 := below_then hB51 hF52
                        have zp52 : w.heap.size < w52.heap.size := by omega
                        have bp52 := (hF52.block (w.heap.size) zp51).trans bp51
                        have zq52 : w51.heap.size < w52.heap.size := by omega
                        have bq52 : w52.heap[w51.heap.size]? = some (.cells #[.int .i64 (p.lo + A1), .int .i64 (p.lo + A1 + A2)] 35) := (hb52.block (w51.heap.size) (by simp)).trans (alloc_at w51 (.cells #[.int .i64 (p.lo + A1), .int .i64 (p.lo + A1 + A2)] 35) (by first | rfl | simp))
                        have hv52 := hv51.later hF52
                        have hx52 := hx51.later hF52
                        have hw52 := hw51.later hF52
                        clear hb52 hF52 hB51 hs51 zp51 bp51 hv51 hx51 hw51 cp0 cp1
                        go_wp2_with fail
                        go_loopw [28] (fun i wr => ∃ j : Nat, j ≤ l.length ∧ i = .int .i64 j ∧ Below w52.heap.size w52 wr) (fun i _ => l.length - (intOf i).toNat)
                        case atStart => exact ⟨0, by omega, rfl, Below.refl _ _⟩
                        case round =>
                          obtain ⟨j, hj, rfl, hb60⟩ := hrel
                          obtain ⟨w60, rfl⟩ : ∃ wo : World, wo = wr := ⟨_, rfl⟩
                          by_cases hlt0 : j < l.length
                          · have dlt : decide ((j : Int) < (Z.length : Int)) = true := decide_eq_true (by rw [ZL.out]; omega)
                            have hlt : j < l.length := hlt0
                            have hltZ : j < Z.length := by rw [ZL.out]; exact hlt0
                            have dlt2 : decide (j < Z.length) = true := decide_eq_true hltZ
                            have hv60 := hv52.later hb60
                            have hx60 := hx52.later hb60
                            have hy60 := hy52.later hb60
                            have hs60 := hb60.size
                            have hB60 := hb60
                            clear hb60
                            obtain ⟨lA, lcap, le, l1, l2, l3⟩ := Bts.open_ hv60
                            cases le
                            obtain ⟨lb, loff, x, rfl, lB, lX, lc0, lc1, lc2, lc3, lc4, lc5, lc6, lc7, lc8, lc9⟩ := l3 j hlt
                            clear l3
                            have hmem : x ∈ l := List.mem_of_getElem? lX
                            obtain ⟨mxA, mxcap, mxe, mx1, mx2, mx3⟩ := Sps.open_ hx60
                            cases mxe
                            obtain ⟨mxb, mxoff, mxx, rfl, mxB, mxX, mxc0, mxc1⟩ := mx3 j (by rw [XL.out]; exact hlt)
                            clear mx3
                            have mxK := HXJ.out j x lX
                            rw [mxK] at mxX
                            cases mxX
                            have mxX := mxK
                            clear mxK
                            obtain ⟨mzA, mzcap, mze, mz1, mz2, mz3⟩ := Sps.open_ hy60
                            cases mze
                            obtain ⟨mzb, mzoff, mzx, rfl, mzB, mzX, mzc0, mzc1⟩ := mz3 j (by rw [ZL.out]; exact hlt)
                            clear mz3
                            have mzK := HZJ.out j x lX
                            rw [mzK] at mzX
                            cases mzX
                            have mzX := mzK
                            clear mzK
                            have NM := HM.out x
                            obtain ⟨NM1, NM2⟩ := NM
                            generalize nearI l sort p x = Q at *
                            generalize nearI l sort ⟨p.lo + A1, p.lo + A1 + A2⟩ x = U at *
                            have f1 : decide (U.lo < Q.lo) = false := decide_eq_false (by omega)
                            have f2 : decide (U.hi > Q.hi) = false := decide_eq_false (by omega)
                            go_wp2_with fail
                            refine wp_region_grown (by kernel_rfl) (by kernel_rfl) fun hcg => ?_
                            repeat (go_big_quiet_step (fail))
                            refine wpQuiet_nil ?_
                            intro _ hw'
                            obtain ⟨g, hw''⟩ := hw'
                            subst hw''
                            have hb61 := g.b
                            clear hcg
                            generalize g.val = w61 at *
                            clear g
                            have hs61 := hb61.size
                            have hF61 : Below w60.heap.size w60 w61 := hb61
                            have hB61 := below_then hB60 hF61
                            clear hb61 hF61 hB60 hs60
                            go_wp2_with fail
                            go_roundw
                            case rel => exact ⟨j + 1, by omega, by go_num, hB61⟩
                            case measure => simp [intOf]; omega
                          · obtain rfl : j = l.length := by omega
                            have dlt : decide ((l.length : Int) < (Z.length : Int)) = false := decide_eq_false (by rw [ZL.out]; omega)
                            have nltZ : ¬ l.length < Z.length := by rw [ZL.out]; omega
                            have dlt2 : decide (l.length < Z.length) = false := decide_eq_false nltZ
                            have hB60 := below_then hB52 hb60
                            go_wp2_with fail
                            go_ret
                            exact ⟨rfl, hB60⟩
                    · as_aux_lemma =>
                        have cp0 := Joins.cell_of_block bp50 0
                        have cp1 := Joins.cell_of_block bp50 1
                        go_wp2_with fail
                        refine wp_region_grown (by kernel_rfl) (by kernel_rfl) fun hcg => ?_
                        repeat (go_big_quiet_step (fail))
                        refine wpQuiet_nil ?_
                        intro _ hw'
                        obtain ⟨g, hw''⟩ := hw'
                        subst hw''
                        have hb51 := g.b
                        clear hcg
                        generalize g.val = w51 at *
                        clear g
                        have hs51 := hb51.size
                        have hF51 : Below w50.heap.size w50 w51 := hb51
                        have hB51 := below_then hB50 hF51
                        have zp51 : w.heap.size < w51.heap.size := by omega
                        have bp51 := (hF51.block (w.heap.size) zp50).trans bp50
                        have hv51 := hv50.later hF51
                        have hx51 := hx50.later hF51
                        have hw51 := hw50.later hF51
                        clear hb51 hF51 hB50 hs50 zp50 bp50 hv50 hx50 hw50 cp0 cp1
                        have cp0 := Joins.cell_of_block bp51 0
                        have cp1 := Joins.cell_of_block bp51 1
                        have h9 : togetherE l sort ⟨p.lo + A1, p.lo + A1 + A2⟩ = 9 := by
                          have := HT.out ⟨p.lo + A1, p.lo + A1 + A2⟩ (by simp only; omega)
                          rw [this] at h3 ⊢
                          split
                          · rfl
                          · rename_i hn; rw [if_neg hn] at h3; exact absurd rfl h3
                        rw [h9] at p3
                        generalize togetherL l sort ⟨p.lo + A1, p.lo + A1 + A2⟩ = Z at p3
                        have P3 := Lib.hid p3
                        clear p3 h9 h3
                        go_wp2_with fail
                        refine (P3.out _ _ (hv51.alloc _)).mono ?_
                        rintro e w52 ⟨hyu, he, hy52, hb52⟩
                        obtain ⟨hyA, hyC, rfl⟩ := hy52.form
                        subst he
                        have hs52 := hb52.size
                        simp only [World.size_alloc] at hs52
                        have hF52 : Below w51.heap.size w51 w52 := (below_then (below_alloc _ _) hb52)
                        have hB52 := below_then hB51 hF52
                        have zp52 : w.heap.size < w52.heap.size := by omega
                        have bp52 := (hF52.block (w.heap.size) zp51).trans bp51
                        have zq52 : w51.heap.size < w52.heap.size := by omega
                        have bq52 : w52.heap[w51.heap.size]? = some (.cells #[.int .i64 (p.lo + A1), .int .i64 (p.lo + A1 + A2)] 35) := (hb52.block (w51.heap.size) (by simp)).trans (alloc_at w51 (.cells #[.int .i64 (p.lo + A1), .int .i64 (p.lo + A1 + A2)] 35) (by first | rfl | simp))
                        have hv52 := hv51.later hF52
                        have hx52 := hx51.later hF52
                        have hw52 := hw51.later hF52
                        clear hb52 hF52 hB51 hs51 zp51 bp51 hv51 hx51 hw51 cp0 cp1
                        go_wp2_with fail
                        go_ret
                        exact ⟨rfl, hB52⟩
    · have p1 := fun (v : Value) (w : World) (h : Bts w w.heap.size v l) => S.Together l sort p v w h
      have p2 := fun (v : Value) (w : World) (h : Bts w w.heap.size v l) => S.Together l sort ⟨-1, 1000⟩ v w h
      generalize togetherL l sort p = X at *
      generalize togetherL l sort ⟨-1, 1000⟩ = Y at *
      generalize togetherE l sort ⟨-1, 1000⟩ = E2 at *
      generalize togetherE l sort p = E1 at *
      have d2 : (E1 != 0) = true := by simpa using hE
      have P1 := Lib.hid p1
      have P2 := Lib.hid p2
      clear p1 p2 hE
      unfold spV
      go_enter Try.func21, Try.ntmps21
      go_wp2_with fail
      refine (head_c S _).mono ?_
      rintro e w1 ⟨he, hb1⟩
      subst he
      have hs1 := hb1.size
      simp only [World.size_alloc] at hs1
      have hF1 : Below w.heap.size w w1 := (below_then (below_alloc _ _) hb1)
      have hB1 := hF1
      have zp1 : w.heap.size < w1.heap.size := by omega
      have bp1 : w1.heap[w.heap.size]? = some (.cells #[.int .i64 p.lo, .int .i64 p.hi] 35) := (hb1.block (w.heap.size) (by simp)).trans (alloc_at w (.cells #[.int .i64 p.lo, .int .i64 p.hi] 35) (by first | rfl | simp))
      have hv1 := hv0.later hF1
      clear hb1 hF1  hv0
      have cp0 := Joins.cell_of_block bp1 0
      have cp1 := Joins.cell_of_block bp1 1
      go_wp2_with fail
      refine (P1.out _ _ hv1).mono ?_
      rintro e w2 ⟨hxu, he, hx2, hb2⟩
      obtain ⟨hxA, hxC, rfl⟩ := hx2.form
      subst he
      have hs2 := hb2.size
      have hF2 : Below w1.heap.size w1 w2 := hb2
      have hB2 := below_then hB1 hF2
      have zp2 : w.heap.size < w2.heap.size := by omega
      have bp2 := (hF2.block (w.heap.size) zp1).trans bp1
      have hv2 := hv1.later hF2
      clear hb2 hF2 hB1 hs1 zp1 bp1 hv1 cp0 cp1
      go_wp2_with fail
      refine (P2.out _ _ hv2).mono ?_
      rintro e w3 ⟨hwu, he, hw3, hb3⟩
      obtain ⟨hwA, hwC, rfl⟩ := hw3.form
      subst he
      have hs3 := hb3.size
      have hF3 : Below w2.heap.size w2 w3 := hb3
      have hB3 := below_then hB2 hF3
      have zp3 : w.heap.size < w3.heap.size := by omega
      have bp3 := (hF3.block (w.heap.size) zp2).trans bp2
      have hv3 := hv2.later hF3
      have hx3 := hx2.later hF3
      clear hb3 hF3 hB2 hs2 zp2 bp2 hv2 hx2
      go_wp2_with fail
      go_ret
      exact ⟨rfl, hB3⟩
end Go.Proofs.Ytihgkeokhfmccaa
