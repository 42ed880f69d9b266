import Derived.Test.YtnedcclmfokdnaaGreatJ25
import Derived.Test.YtnedcclmfokdnaaGreatZSOverE
import Derived.Test.YtnedcclmfokdnaaGreatZSSpecE
namespace Go.Proofs.YtnedcclmfokdnaaGreat
open Go Go.RowKit Go.Shelf
attribute [local go_sem] Oper.semAt_some Rel RelAt RelUpon
theorem sink_is {k : Kl} (hc : checkI k = 0) (id : Int) : sinkE k id = if place k.ls id < 0 then 5 else if canB (tiesL k) = true then 0 else 9 := by
  unfold sinkE pairE
  rw [if_neg (by simp [hc] : ¬ checkI k ≠ 0)]
  by_cases h : place k.ls id < 0
  · rw [if_pos h, if_pos h]; rfl
  · rw [if_neg h, if_neg h]; rfl
set_option maxRecDepth 100000 in
set_option maxHeartbeats 8000000 in
theorem metD_c (k : Kl) (A1 A2 A3 : Option Addr) (c1 c2 c3 : Nat) (id : Int) (w : World) (hv : Kiln w (.agg #[.int .i64 k.room, .int .i64 k.per, .slice A1 k.ls.length c1, .slice A2 k.ds.length c2, .slice A3 k.ws.length c3]) k) (hR : Right k) :
    Calls Tryz.prog 123 #[.agg #[.int .i64 k.room, .int .i64 k.per, .slice A1 k.ls.length c1, .slice A2 k.ds.length c2, .slice A3 k.ws.length c3], .agg #[.slice A2 k.ds.length c2, .int .i64 k.ls.length], .agg #[.slice A1 k.ls.length c1, .int .i64 0], .int .i64 id] w fun e w' => ∃ u1 u2, e = .returned (.tuple #[u1, u2, .int .i64 (sinkE k id)]) ∧
      (w'.ownsRow w.heap.size 3 1 u1 (sinkS k id).length ((sinkS k id).map (Value.int .i64)) ∧ w'.ownsRow w.heap.size 3 1 u2 (sinkM k id).length ((sinkM k id).map (Value.int .i64))) ∧ Below w.heap.size w w' := by
  obtain ⟨q0, q1, q2, -, qb⟩ := three_new w (.cells #[.int .i64 k.room, .int .i64 k.per, .slice A1 k.ls.length c1, .slice A2 k.ds.length c2, .slice A3 k.ws.length c3] 26) (.cells #[.slice A2 k.ds.length c2, .int .i64 k.ls.length] 134) (.cells #[.slice A1 k.ls.length c1, .int .i64 0] 130)
  have hk := hv.later qb
  clear hv
  have HR := Lib.hid hR
  have n1 := hR.ls
  have n2 := hR.ds
  have HE := Lib.hid (sink_is hR.zero id)
  have HN := Lib.hid hR.noL
  clear hR
  have hln := fun W (hk : Kiln W (.agg #[.int .i64 k.room, .int .i64 k.per, .slice A1 k.ls.length c1, .slice A2 k.ds.length c2, .slice A3 k.ws.length c3]) k) => (show Recs W W.heap.size (.slice A2 k.ds.length c2) k.ds ∧ Recs W W.heap.size (.slice A1 k.ls.length c1) k.ls by
    obtain ⟨al, ad, aw, e9, hl, hd, _⟩ := hk
    obtain ⟨rfl, rfl, rfl⟩ : .slice A1 k.ls.length c1 = al ∧ .slice A2 k.ds.length c2 = ad ∧ .slice A3 k.ws.length c3 = aw := by simpa using e9
    exact ⟨hd, hl⟩)
  have HLN := Lib.hid hln
  clear hln
  go_enter Tryz.func123, Tryz.ntmps123
  have x0 := Joins.cell_of_block q2 0
  have x1 := Joins.cell_of_block q2 1
  go_wp2_with fail
  generalize ((w.alloc _).alloc _).alloc _ = W1 at q0 q1 q2 x0 x1 qb hk ⊢
  have hpc := Lib.hid (partsL_c k.ls (.slice A1 k.ls.length c1) 0 W1 (HLN.out W1 hk).2 (by omega) HN.out)
  refine hpc.out.mono ?_
  rintro e W4 ⟨r, rfl, hm, hF⟩
  replace q0 := (hF.block _ (size_of_block q0)).trans q0
  replace q1 := (hF.block _ (size_of_block q1)).trans q1
  replace qb := below_then qb hF
  replace hk := hk.later hF
  have HM := Lib.hid hm
  have HLK := Lib.hid (lookup_place k.ls 0 id)
  clear hF hpc hm x0 x1 q2
  rcases place_cases k.ls id with ⟨e1, _⟩ | ⟨p, xp, e1, hxp, _, hp, _⟩
  · rw [e1, if_pos (by omega)] at HLK
    have HEE := Lib.hid (show sinkE k id = 5 by rw [HE.out, if_pos (by rw [e1]; omega)])
    have HSS := Lib.hid (show sinkS k id = [] ∧ sinkM k id = [] by unfold sinkS sinkM; rw [HEE.out]; exact ⟨rfl, rfl⟩)
    clear e1
    have hz0 := heap_alloc_new W4 (.cells #[.int .i64 0, .int .i64 0] 160)
    obtain ⟨W5, hW5⟩ : ∃ W5, W5 = (W4.alloc (.cells #[.int .i64 0, .int .i64 0] 160)).setRow W4.heap.size (#[.int .i64 0, .int .i64 0]) := ⟨_, rfl⟩
    have pb : Below W4.heap.size W4 W5 := by rw [hW5]; exact below_setRow (below_alloc _ _) (Nat.le_refl _) _
    have p0 : W5.heap[W4.heap.size]? = some (.cells (#[.int .i64 0, .int .i64 0]) 160) := by rw [hW5]; exact setRow_heap _ _ _ _ _ _ (heap_alloc_new W4 _)
    have HW5 := Lib.hid hW5
    replace q0 := (pb.block _ (size_of_block q0)).trans q0
    replace q1 := (pb.block _ (size_of_block q1)).trans q1
    replace qb := below_then qb pb
    replace hk := hk.later pb
    clear pb hW5
    go_wp2_with (first | (at_lookup; refine wpList_lookup_i rfl (.tmp 24) (.tmp 25) 168 true rfl Tryz.underlying168 Tryz.underlying3 (.agg #[.int .i64 0, .int .i64 0]) Tryz.zeroPart rfl id rfl HM.out (.tuple #[.agg #[.int .i64 0, .int .i64 0], .bool false]) (by rw [HLK.out]; rfl) ?_) | (refine wpList_store_rowTo rfl 160 _ _ rfl rfl W4.heap.size #[.int .i64 0, .int .i64 0] rfl rfl 160 _ hz0 (by kernel_rfl) rfl (by kernel_rfl) ?_; rw [← HW5.out]))
    refine bodyPost_ret (v := .tuple #[.slice none 0 0, .slice none 0 0, .int .i64 (5)]) ?_ rfl ⟨_, _, by rw [HEE.out], ⟨by rw [HSS.out.1]; exact World.ownsRow_nil _ _ _ _, by rw [HSS.out.2]; exact World.ownsRow_nil _ _ _ _⟩, qb⟩
    simp [results, Tryz.results123, go_sem]
  · rw [e1, if_neg (by omega)] at HLK
    have hpv2 : partV 0 p = .agg #[.int .i64 p, .int .i64 ((p : Int) + 1)] := by unfold partV; rw [markB_zero, markB_zero]
    rw [hpv2] at HLK
    have hxj := (List.getElem?_eq_some_iff.1 hxp).1
    have HPT := Lib.hid (fun (i : Nat) (hi : i < k.ds.length) => (show PtsOk (tiesL k) (marksN k) ⟨markB k.ls.length i, markB k.ls.length ((i : Int) + 1)⟩ ⟨(p : Int), (p : Int) + 1⟩ from (pts_ok hp hi).comm))
    have HE2 := Lib.hid (show sinkE k id = if canB (tiesL k) = true then 0 else 9 by rw [HE.out, if_neg (by rw [e1]; omega)])
    have HP := Lib.hid e1
    clear e1 HE hxp
    have hz0 := heap_alloc_new W4 (.cells #[.int .i64 0, .int .i64 0] 160)
    obtain ⟨W5, hW5⟩ : ∃ W5, W5 = (W4.alloc (.cells #[.int .i64 0, .int .i64 0] 160)).setRow W4.heap.size (#[.int .i64 (p), .int .i64 ((p : Int) + 1)]) := ⟨_, rfl⟩
    have pb : Below W4.heap.size W4 W5 := by rw [hW5]; exact below_setRow (below_alloc _ _) (Nat.le_refl _) _
    have p0 : W5.heap[W4.heap.size]? = some (.cells (#[.int .i64 (p), .int .i64 ((p : Int) + 1)]) 160) := by rw [hW5]; exact setRow_heap _ _ _ _ _ _ (heap_alloc_new W4 _)
    have HW5 := Lib.hid hW5
    replace q0 := (pb.block _ (size_of_block q0)).trans q0
    replace q1 := (pb.block _ (size_of_block q1)).trans q1
    replace qb := below_then qb pb
    replace hk := hk.later pb
    clear pb hW5
    have y0 := Joins.cell_of_block q0 0
    have y1 := Joins.cell_of_block q0 1
    have y2 := Joins.cell_of_block q0 2
    have y3 := Joins.cell_of_block q0 3
    have y4 := Joins.cell_of_block q0 4
    have zq := size_of_block q0
    go_wp2_with (first | (at_lookup; refine wpList_lookup_i rfl (.tmp 24) (.tmp 25) 168 true rfl Tryz.underlying168 Tryz.underlying3 (.agg #[.int .i64 0, .int .i64 0]) Tryz.zeroPart rfl id rfl HM.out (.tuple #[.agg #[.int .i64 (p), .int .i64 ((p : Int) + 1)], .bool true]) (by rw [HLK.out]; rfl) ?_) | (refine wpList_store_rowTo rfl 160 _ _ rfl rfl W4.heap.size #[.int .i64 (p), .int .i64 ((p : Int) + 1)] rfl rfl 160 _ hz0 (by kernel_rfl) rfl (by kernel_rfl) ?_; rw [← HW5.out]))
    clear y0 y1 y2 y3 y4 zq hz0 HW5 HM HLK
    refine (netOf_d k _ W5 hk HR.out).mono ?_
    rintro e W9 ⟨u, rfl, ⟨hT, _⟩, hF⟩
    obtain ⟨A, cap, rfl⟩ := Sl.form1 hT
    replace q1 := (hF.block _ (size_of_block q1)).trans q1
    replace p0 := (hF.block _ (size_of_block p0)).trans p0
    replace qb := below_then qb hF
    have hre := (HLN.out W9 (hk.later hF)).1
    clear hF q0 hk HLN
    have nb := below_alloc W9 (.cells #[.int .i64 (marksN k), .slice A (tiesL k).length cap] 145)
    have r0 := heap_alloc_new W9 (.cells #[.int .i64 (marksN k), .slice A (tiesL k).length cap] 145)
    replace q1 := (nb.block _ (size_of_block q1)).trans q1
    replace p0 := (nb.block _ (size_of_block p0)).trans p0
    replace qb := below_then qb nb
    replace hT := hT.later nb
    replace hre := hre.later nb
    clear nb
    go_wp2_with fail
    generalize W9.alloc _ = W10 at r0 q1 p0 qb hT hre ⊢
    refine (agreesK_c k (.slice A (tiesL k).length cap) W10 HR.out hT).mono ?_
    rintro e W11 ⟨rfl, hF⟩
    replace q1 := (hF.block _ (size_of_block q1)).trans q1
    replace p0 := (hF.block _ (size_of_block p0)).trans p0
    replace r0 := (hF.block _ (size_of_block r0)).trans r0
    replace qb := below_then qb hF
    replace hT := hT.later hF
    replace hre := hre.later hF
    clear hF
    by_cases hcc : canB (tiesL k) = true
    · have HCC := Lib.hid hcc
      rw [hcc]
      have HEE := Lib.hid (show sinkE k id = 0 by rw [HE2.out, if_pos hcc])
      have HSS := Lib.hid (show sinkS k id = sureL (tiesL k) k.ds k.ls.length ⟨(p : Int), (p : Int) + 1⟩ k.ds.length ∧ sinkM k id = someL (tiesL k) k.ds k.ls.length ⟨(p : Int), (p : Int) + 1⟩ k.ds.length by unfold sinkS sinkM; rw [if_pos HEE.out, if_pos HEE.out, HP.out]; exact ⟨rfl, rfl⟩)
      clear hcc
      have hmn := mN_eq k
      have hok : NetOk (tiesL k) (mN k : Nat) := by rw [← hmn]; exact net_ok HR.out
      have hrea : Reaches (tiesL k) (mN k : Nat) 0 := by rw [← hmn]; exact net_reaches k (by omega) (by rw [hmn]; unfold mN; omega)
      have hlen := tiesL_len HR.out.small
      have hn0 : 0 < mN k := by unfold mN; omega
      have hT2 := hT
      have hre2 := hre
      have HT := Lib.hid hT2
      have HRE := Lib.hid hre2
      rw [hmn] at r0 HPT
      have HOK := Lib.hid hok
      have HREA := Lib.hid hrea
      obtain ⟨i0, hi, hz0, hz1, hz2⟩ := info_parts Tryz.infoIntT
      have HI := Lib.hid hi
      have HI0 := Lib.hid hz0
      have HI1 := Lib.hid hz1
      have HI2 := Lib.hid hz2
      have Q1 := Lib.hid q1
      have P0 := Lib.hid p0
      have R0 := Lib.hid r0
      have hs1 := size_of_block q1
      have hs2 := size_of_block p0
      have hs3 := size_of_block r0
      have HQB := Lib.hid qb
      have hwB : w.heap.size ≤ W11.heap.size := qb.size
      obtain ⟨g1, hg1⟩ : ∃ g, g = w.heap.size + 1 := ⟨_, rfl⟩
      obtain ⟨g2, hg2⟩ : ∃ g, g = W4.heap.size := ⟨_, rfl⟩
      obtain ⟨g3, hg3⟩ : ∃ g, g = W9.heap.size := ⟨_, rfl⟩
      have x1 := Joins.cell_of_block q1 0
      have zq1 := size_of_block q1
      go_wp2_with fail
      clear x1 zq1 hok hrea hT hre hT2 hre2 hi hz0 hz1 hz2 hmn
      go_loopw [14, 15, 39] (fun u1 u2 n wr => ∃ j : Nat, j ≤ k.ds.length ∧ n = .int .i64 j ∧ wr.ownsRow W11.heap.size 3 1 u1 (sureL (tiesL k) k.ds k.ls.length ⟨(p : Int), (p : Int) + 1⟩ j).length ((sureL (tiesL k) k.ds k.ls.length ⟨(p : Int), (p : Int) + 1⟩ j).map (Value.int .i64)) ∧ wr.ownsRow W11.heap.size 3 1 u2 (someL (tiesL k) k.ds k.ls.length ⟨(p : Int), (p : Int) + 1⟩ j).length ((someL (tiesL k) k.ds k.ls.length ⟨(p : Int), (p : Int) + 1⟩ j).map (Value.int .i64)) ∧ Hid (∀ g, u1.ownBlock = some g → u2.ownBlock ≠ some g) ∧ Below W11.heap.size W11 wr) (fun _ _ n _ => k.ds.length - (intOf n).toNat)
      case atStart => exact ⟨0, Nat.zero_le _, rfl, World.ownsRow_nil _ _ _ _, World.ownsRow_nil _ _ _ _, Lib.hid (fun g h => by cases h), Below.refl _ _⟩
      case round =>
        clear q1 p0 r0
        obtain ⟨j, hj, rfl, hO1, hO2, hD, hbw⟩ := hrel
        have q1 := (hbw.block _ hs1).trans Q1.out
        have p0 := (hbw.block _ hs2).trans P0.out
        have r0 := (hbw.block _ hs3).trans R0.out
        have hT : TiesAt wr wr.heap.size (.slice A (tiesL k).length cap) (tiesL k) := (HT.out.below hbw).more (by have := hbw.size; omega)
        have hRec : Recs wr wr.heap.size (.slice A2 k.ds.length c2) k.ds := (HRE.out.below hbw).more (by have := hbw.size; omega)
        have hsz := hbw.size
        by_cases hlt : j < k.ds.length
        · obtain ⟨x, hx⟩ : ∃ x, k.ds[j]? = some x := ⟨_, List.getElem?_eq_getElem hlt⟩
          have hpt := HPT.out j hlt
          have HSN := Lib.hid (sureL_snoc (l := tiesL k) (bs := k.ls.length) (p := ⟨(p : Int), (p : Int) + 1⟩) hx)
          have HMN := Lib.hid (someL_snoc (l := tiesL k) (bs := k.ls.length) (p := ⟨(p : Int), (p : Int) + 1⟩) hx)
          have HX := Lib.hid hx
          have hlc := fun W h => least_c (tiesL k) (.slice A (tiesL k).length cap) (mN k) ⟨markB k.ls.length (j : Int), markB k.ls.length ((j : Int) + 1)⟩ ⟨p, (p : Int) + 1⟩ W h HOK.out hpt (canB_true.1 HCC.out) (by omega)
          have hrc := fun W h => reaches_c (tiesL k) (.slice A (tiesL k).length cap) (mN k) ⟨markB k.ls.length (j : Int), markB k.ls.length ((j : Int) + 1)⟩ ⟨p, (p : Int) + 1⟩ 1 W h (ov_net HOK.out hpt ⟨by omega, by omega⟩) hn0 (reaches_more HREA.out) ⟨by omega, by omega⟩ (by omega)
          have hov := fun W => overlap_c ((mN k : Nat) : Int) A (tiesL k).length cap ⟨markB k.ls.length (j : Int), markB k.ls.length ((j : Int) + 1)⟩ ⟨p, (p : Int) + 1⟩ W
          simp only [pV, ovV, ovA] at hlc hrc hov
          have HLC := Lib.hid hlc
          have HRC := Lib.hid hrc
          have HOV := Lib.hid hov
          clear hx hlc hrc hov hpt
          go_wp2_with fail
          refine wp_region_looseM [2] [0, 1, 4] (.one 3 (.one 5 .done)) [6] [] [7] [some 17] [.cells #[.int .i64 0, .slice none 0 0, .int .i64 0, .int .i64 0, .int .i64 0, .int .i64 0, .int .i64 0, .int .i64 0, .int .i64 0, .int .i64 0] 173] (by kernel_rfl) (by kernel_rfl) (by intro c a d v w h; cases d <;> exact h) (by intro c a d v w h; cases d <;> exact h) rfl (by intro r i hri; match r, hri with | 0, hri => cases hri; exact ⟨_, _, rfl, rfl, rfl, rfl, fun a u => by simp [execOp, go_sem, ptrV]⟩) ?_
          simp only [pick, List.filterMap_cons, List.filterMap_nil, List.getElem?_toArray, List.getElem?_cons_succ, List.getElem?_cons_zero]
          refine wpPure_step (.int .i64 j) rfl (fun u => by first | rfl | kernel_rfl | simp [execOp, go_sem]) ?_
          intro u1 hu1
          replace r0 := (hu1.block _ (size_of_block r0)).trans r0
          replace q1 := (hu1.block _ (size_of_block q1)).trans q1
          replace p0 := (hu1.block _ (size_of_block p0)).trans p0
          replace hT := hT.later hu1
          replace hRec := hRec.later hu1
          replace hO1 := own_below hO1 hu1
          replace hO2 := own_below hO2 hu1
          replace hbw := below_then hbw hu1
          have cq10 := Joins.cell_of_block q1 0
          have cq11 := Joins.cell_of_block q1 1
          have zq1 := size_of_block q1
          have cr00 := Joins.cell_of_block r0 0
          have cr01 := Joins.cell_of_block r0 1
          have zr0 := size_of_block r0
          have cp00 := Joins.cell_of_block p0 0
          have cp01 := Joins.cell_of_block p0 1
          have zp0 := size_of_block p0
          have hcg : ∀ (g : Gr u1) b o, b < u1.heap.size → g.val.cell? ⟨b, o, none⟩ = u1.cell? ⟨b, o, none⟩ := fun g b o h => (bcell g.b).1 b o h
          iterate 3 (refine wpRel_step (fun K hK => ?_); go_simp; refine hK _ ?_; clear hK K)
          refine wpRel_nil fun V1_0 hb1 => ?_
          clear hcg cq10 cq11 zq1 cr00 cr01 zr0 cp00 cp01 zp0
          replace p0 := (hb1.block _ (size_of_block p0)).trans p0
          replace q1 := (hb1.block _ (size_of_block q1)).trans q1
          replace r0 := (hb1.block _ (size_of_block r0)).trans r0
          replace hT := hT.later hb1
          replace hRec := hRec.later hb1
          replace hO1 := own_below hO1 hb1
          replace hO2 := own_below hO2 hb1
          replace hbw := below_then hbw hb1
          clear hb1 hu1
          refine wpTr_step rfl rfl fun K hK => ?_
          go_simp
          refine (partD_c (.slice A2 k.ds.length c2) k.ls.length j V1_0 (by omega) (by omega)).mono ?_
          rintro e X ⟨rfl, hx⟩
          refine hK _ _ hx fun V1_1 hu => ?_
          clear hK K
          have hxu := below_then hx hu
          replace p0 := (hxu.block _ (size_of_block p0)).trans p0
          replace q1 := (hxu.block _ (size_of_block q1)).trans q1
          replace r0 := (hxu.block _ (size_of_block r0)).trans r0
          replace hT := hT.later hxu
          replace hRec := hRec.later hxu
          replace hO1 := own_below hO1 hxu
          replace hO2 := own_below hO2 hxu
          replace hbw := below_then hbw hxu
          clear hx hu hxu
          refine wpTr_step rfl rfl fun K hK => ?_
          go_simp
          refine (HOV.out V1_1).mono ?_
          rintro e X ⟨rfl, hx⟩
          refine hK _ _ hx fun V1_2 hu => ?_
          clear hK K
          have hxu := below_then hx hu
          replace p0 := (hxu.block _ (size_of_block p0)).trans p0
          replace q1 := (hxu.block _ (size_of_block q1)).trans q1
          replace r0 := (hxu.block _ (size_of_block r0)).trans r0
          replace hT := hT.later hxu
          replace hRec := hRec.later hxu
          replace hO1 := own_below hO1 hxu
          replace hO2 := own_below hO2 hxu
          replace hbw := below_then hbw hxu
          clear hx hu hxu
          show wpPure _ _ _ _
          intro ks hks hall hH
          obtain ⟨k1, rfl⟩ : ∃ k1, ks = [some k1] := by
            match ks, hks with
            | [none], _ => exact absurd rfl (hall 0)
            | [some k1], _ => exact ⟨k1, rfl⟩
          obtain ⟨o1, ge1, lt1⟩ := hH.obj 0 k1 rfl
          rw [show ([Obj.cells #[.int .i64 0, .slice none 0 0, .int .i64 0, .int .i64 0, .int .i64 0, .int .i64 0, .int .i64 0, .int .i64 0, .int .i64 0, .int .i64 0] 173])[0]? = some (.cells #[.int .i64 0, .slice none 0 0, .int .i64 0, .int .i64 0, .int .i64 0, .int .i64 0, .int .i64 0, .int .i64 0, .int .i64 0, .int .i64 0] 173) from rfl] at o1
          clear hH hall hks
          show wpList _ _ _ _ _ _
          simp only [deco, ptrV]
          refine wpList_store_rowTo rfl 173 _ _ rfl rfl k1 #[.int .i64 ((mN k : Nat) : Int), .slice A (tiesL k).length cap, .int .i64 (markB k.ls.length (j : Int)), .int .i64 (markB k.ls.length ((j : Int) + 1)), .int .i64 (markB k.ls.length (j : Int)), .int .i64 ((p : Int) + 1), .int .i64 (p), .int .i64 (markB k.ls.length ((j : Int) + 1)), .int .i64 (p), .int .i64 ((p : Int) + 1)] rfl rfl 173 _ o1 (by kernel_rfl) (by kernel_rfl) (by kernel_rfl) ?_
          have r5 : (V1_2.setRow k1 #[.int .i64 ((mN k : Nat) : Int), .slice A (tiesL k).length cap, .int .i64 (markB k.ls.length (j : Int)), .int .i64 (markB k.ls.length ((j : Int) + 1)), .int .i64 (markB k.ls.length (j : Int)), .int .i64 ((p : Int) + 1), .int .i64 (p), .int .i64 (markB k.ls.length ((j : Int) + 1)), .int .i64 (p), .int .i64 ((p : Int) + 1)]).heap[k1]? = some (.cells #[.int .i64 ((mN k : Nat) : Int), .slice A (tiesL k).length cap, .int .i64 (markB k.ls.length (j : Int)), .int .i64 (markB k.ls.length ((j : Int) + 1)), .int .i64 (markB k.ls.length (j : Int)), .int .i64 ((p : Int) + 1), .int .i64 (p), .int .i64 (markB k.ls.length ((j : Int) + 1)), .int .i64 (p), .int .i64 ((p : Int) + 1)] 173) := setRow_heap _ _ _ _ _ _ o1
          replace hO1 := own_setRowX hO1 o1 (by decide) #[.int .i64 ((mN k : Nat) : Int), .slice A (tiesL k).length cap, .int .i64 (markB k.ls.length (j : Int)), .int .i64 (markB k.ls.length ((j : Int) + 1)), .int .i64 (markB k.ls.length (j : Int)), .int .i64 ((p : Int) + 1), .int .i64 (p), .int .i64 (markB k.ls.length ((j : Int) + 1)), .int .i64 (p), .int .i64 ((p : Int) + 1)]
          replace hO2 := own_setRowX hO2 o1 (by decide) #[.int .i64 ((mN k : Nat) : Int), .slice A (tiesL k).length cap, .int .i64 (markB k.ls.length (j : Int)), .int .i64 (markB k.ls.length ((j : Int) + 1)), .int .i64 (markB k.ls.length (j : Int)), .int .i64 ((p : Int) + 1), .int .i64 (p), .int .i64 (markB k.ls.length ((j : Int) + 1)), .int .i64 (p), .int .i64 ((p : Int) + 1)]
          replace hbw := below_setRow hbw (show W11.heap.size ≤ k1 by omega) #[.int .i64 ((mN k : Nat) : Int), .slice A (tiesL k).length cap, .int .i64 (markB k.ls.length (j : Int)), .int .i64 (markB k.ls.length ((j : Int) + 1)), .int .i64 (markB k.ls.length (j : Int)), .int .i64 ((p : Int) + 1), .int .i64 (p), .int .i64 (markB k.ls.length ((j : Int) + 1)), .int .i64 (p), .int .i64 ((p : Int) + 1)]
          clear o1 ge1 lt1 q1 r0 p0 hT hRec
          generalize V1_2.setRow k1 #[.int .i64 ((mN k : Nat) : Int), .slice A (tiesL k).length cap, .int .i64 (markB k.ls.length (j : Int)), .int .i64 (markB k.ls.length ((j : Int) + 1)), .int .i64 (markB k.ls.length (j : Int)), .int .i64 ((p : Int) + 1), .int .i64 (p), .int .i64 (markB k.ls.length ((j : Int) + 1)), .int .i64 (p), .int .i64 ((p : Int) + 1)] = W5a at r5 hO1 hO2 hbw ⊢
          have hT : TiesAt W5a W5a.heap.size (.slice A (tiesL k).length cap) (tiesL k) := (HT.out.below hbw).more (by have := hbw.size; omega)
          go_wp2_with (first | (refine wpList_load_row rfl 173 _ rfl k1 rfl 173 #[.int .i64 ((mN k : Nat) : Int), .slice A (tiesL k).length cap, .int .i64 (markB k.ls.length (j : Int)), .int .i64 (markB k.ls.length ((j : Int) + 1)), .int .i64 (markB k.ls.length (j : Int)), .int .i64 ((p : Int) + 1), .int .i64 (p), .int .i64 (markB k.ls.length ((j : Int) + 1)), .int .i64 (p), .int .i64 ((p : Int) + 1)] (0, 0) _ r5 Tryz.underlying173 rfl (by kernel_rfl) ?_))
          refine (HLC.out W5a hT).mono ?_
          rintro e W6 ⟨M, rfl, ⟨_, _, _⟩, hF⟩
          replace r5 := (hF.block _ (size_of_block r5)).trans r5
          replace hO1 := own_later hO1 hF
          replace hO2 := own_later hO2 hF
          replace hbw := below_grown hbw (by have := hbw.size; omega) hF
          clear hF hT HLC
          obtain ⟨W7, hW7⟩ : ∃ W7, W7 = (W6.alloc (.cells #[.int .i64 0, .int .i64 0, .int .i64 0, .int .i64 0, .int .i64 0, .int .i64 0, .int .i64 0, .int .i64 0, .int .i64 0, .int .i64 0, .int .i64 0, .int .i64 0, .int .i64 0, .int .i64 0, .int .i64 0, .int .i64 0, .int .i64 0, .int .i64 0, .int .i64 0, .int .i64 0, .int .i64 0, .int .i64 0, .int .i64 0, .int .i64 0, .int .i64 0, .int .i64 0, .int .i64 0, .int .i64 0, .int .i64 0, .int .i64 0, .int .i64 0, .int .i64 0, .int .i64 0, .int .i64 0, .int .i64 0, .int .i64 0, .int .i64 0, .int .i64 0, .int .i64 0, .int .i64 0, .int .i64 0] 124)).setRow W6.heap.size (hgA (halfN (mN k) M)) := ⟨_, rfl⟩
          have pb : Below W6.heap.size W6 W7 := by rw [hW7]; exact below_setRow (below_alloc _ _) (Nat.le_refl _) _
          have HW7 := Lib.hid hW7
          replace r5 := (pb.block _ (size_of_block r5)).trans r5
          replace hO1 := own_later hO1 pb
          replace hO2 := own_later hO2 pb
          replace hbw := below_grown hbw (by have := hbw.size; omega) pb
          clear pb hW7
          obtain ⟨z, hz⟩ : ∃ z, z = leastZ (tiesL k) ⟨markB k.ls.length (j : Int), markB k.ls.length ((j : Int) + 1)⟩ ⟨p, (p : Int) + 1⟩ := ⟨_, rfl⟩
          rw [← hz] at HSN ⊢
          clear hz
          by_cases hp0 : 0 < z
          · rw [if_pos hp0] at HSN
            have q1 := (hbw.block _ hs1).trans Q1.out
            have hRec : Recs W7 W7.heap.size (.slice A2 k.ds.length c2) k.ds := (HRE.out.below hbw).more (by have := hbw.size; omega)
            have y0 := Joins.cell_of_block q1 0
            have y1 := Joins.cell_of_block q1 1
            have yz := size_of_block q1
            go_wp2_with (first | (refine wpList_store_rowTo rfl 124 _ _ rfl rfl W6.heap.size (hgA (halfN (mN k) M)) rfl rfl 124 _ (heap_alloc_new W6 _) (by kernel_rfl) (by rw [hgA_size]; kernel_rfl) (by rw [hgA_size]; kernel_rfl) ?_; rw [← HW7.out]))
            all_goals (try (exfalso; omega))
            refine (atD_c k.ds (.slice A2 k.ds.length c2) k.ls.length j x W7 hRec HX.out).mono ?_
            rintro e W8 ⟨rfl, hF⟩
            replace r5 := (hF.block _ (size_of_block r5)).trans r5
            replace hO1 := own_later hO1 hF
            replace hO2 := own_later hO2 hF
            replace hbw := below_grown hbw (by have := hbw.size; omega) hF
            clear hF hRec q1 y0 y1 yz
            have hOld := hO1
            have hbs := hbw.size
            have hll := sureL_len (tiesL k) k.ds k.ls.length ⟨p, (p : Int) + 1⟩ j
            have hfl := Tryz.fieldID
            go_wp2_with (at_builtin; refine wpList_append_own_at _ rfl _ _ 27 rfl W11.heap.size 3 i0 (.int .i64 0) 1 8 Tryz.underlying27 HI.out HI0.out HI1.out HI2.out rfl (by decide) _ _ _ rfl (hO1.alloc _) ⟨W8.heap.size, 0, none⟩ 1 1 [.int .i64 x.id] rfl rfl (cell_one_new _ _ _) (one_oneCell rfl) ?c3 ?c4 ?c5 ?_)
            case c3 => unfold maxLen; omega
            case c4 => omega
            case c5 => simp; omega
            intro v1 W8' hown' hgrow _ hat
            obtain ⟨hk2, hD2⟩ := app_apart hO1 hO2 hD.out hgrow hat
            replace hbw := below_append hbw (by omega) hO1 hgrow
            replace hO1 : W8'.ownsRow W11.heap.size 3 1 v1 (sureL (tiesL k) k.ds k.ls.length ⟨(p : Int), (p : Int) + 1⟩ j ++ [x.id]).length ((sureL (tiesL k) k.ds k.ls.length ⟨(p : Int), (p : Int) + 1⟩ j ++ [x.id]).map (Value.int .i64)) := by rw [List.length_append, List.map_append]; exact hown'
            replace hO2 := hk2
            replace hD := Lib.hid hD2
            replace r5 := (hgrow.block _ (by have := size_of_block r5; simp; omega) (Ne.symm (own_ne_block (hOld.alloc _) (show (W8.alloc (.cells #[.int .i64 x.id] 3)).heap[k1]? = some _ from ((below_alloc W8 _).block _ (size_of_block r5)).trans r5) (by decide)))).trans (((below_alloc W8 (.cells #[.int .i64 x.id] 3)).block _ (size_of_block r5)).trans r5)
            clear hOld hown' hgrow hat hk2 hD2 hbs hll hfl
            have hT : TiesAt W8' W8'.heap.size (.slice A (tiesL k).length cap) (tiesL k) := (HT.out.below hbw).more (by have := hbw.size; omega)
            go_wp2_with (first | (refine wpList_load_row rfl 173 _ rfl k1 rfl 173 #[.int .i64 ((mN k : Nat) : Int), .slice A (tiesL k).length cap, .int .i64 (markB k.ls.length (j : Int)), .int .i64 (markB k.ls.length ((j : Int) + 1)), .int .i64 (markB k.ls.length (j : Int)), .int .i64 ((p : Int) + 1), .int .i64 (p), .int .i64 (markB k.ls.length ((j : Int) + 1)), .int .i64 (p), .int .i64 ((p : Int) + 1)] (0, 0) _ r5 Tryz.underlying173 rfl (by kernel_rfl) ?_))
            all_goals (try (exfalso; omega))
            refine (HRC.out W8' hT).mono ?_
            rintro e Wa ⟨F, r, rfl, hres, hF⟩
            replace hO1 := own_later hO1 hF
            replace hO2 := own_later hO2 hF
            replace hbw := below_grown hbw (by have := hbw.size; omega) hF
            clear hF hT HRC r5
            obtain ⟨Wb, hWb⟩ : ∃ Wb, Wb = (Wa.alloc (.cells #[.int .i64 0, .int .i64 0, .int .i64 0, .int .i64 0, .int .i64 0, .int .i64 0, .int .i64 0, .int .i64 0, .int .i64 0, .int .i64 0, .int .i64 0, .int .i64 0, .int .i64 0, .int .i64 0, .int .i64 0, .int .i64 0, .int .i64 0, .int .i64 0, .int .i64 0, .int .i64 0, .int .i64 0, .int .i64 0, .int .i64 0, .int .i64 0, .int .i64 0, .int .i64 0, .int .i64 0, .int .i64 0, .int .i64 0, .int .i64 0, .int .i64 0, .int .i64 0, .int .i64 0, .int .i64 0, .int .i64 0, .int .i64 0, .int .i64 0, .int .i64 0, .int .i64 0, .int .i64 0, .int .i64 0] 124)).setRow Wa.heap.size (hgA F) := ⟨_, rfl⟩
            have pb : Below Wa.heap.size Wa Wb := by rw [hWb]; exact below_setRow (below_alloc _ _) (Nat.le_refl _) _
            have HWb := Lib.hid hWb
            replace hO1 := own_later hO1 pb
            replace hO2 := own_later hO2 pb
            replace hbw := below_grown hbw (by have := hbw.size; omega) pb
            clear pb hWb
            have hmr : Hid ((r = true ↔ 0 < mostZ (tiesL k) ⟨markB k.ls.length (j : Int), markB k.ls.length ((j : Int) + 1)⟩ ⟨p, (p : Int) + 1⟩)) := reach_some hres
            clear hres
            cases r with
            | true =>
              rw [if_pos (hmr.out.1 rfl)] at HMN
              clear hmr
              have q1 := (hbw.block _ hs1).trans Q1.out
              have hRec : Recs Wb Wb.heap.size (.slice A2 k.ds.length c2) k.ds := (HRE.out.below hbw).more (by have := hbw.size; omega)
              have y0 := Joins.cell_of_block q1 0
              have y1 := Joins.cell_of_block q1 1
              have yz := size_of_block q1
              go_wp2_with (first | (refine wpList_store_rowTo rfl 124 _ _ rfl rfl Wa.heap.size (hgA (F)) rfl rfl 124 _ (heap_alloc_new Wa _) (by kernel_rfl) (by rw [hgA_size]; kernel_rfl) (by rw [hgA_size]; kernel_rfl) ?_; rw [← HWb.out]))
              all_goals (try (exfalso; omega))
              refine (atD_c k.ds (.slice A2 k.ds.length c2) k.ls.length j x Wb hRec HX.out).mono ?_
              rintro e Wc ⟨rfl, hF⟩
              replace hO1 := own_later hO1 hF
              replace hO2 := own_later hO2 hF
              replace hbw := below_grown hbw (by have := hbw.size; omega) hF
              clear hF hRec q1 y0 y1 yz
              have hbs := hbw.size
              have hll := someL_len (tiesL k) k.ds k.ls.length ⟨p, (p : Int) + 1⟩ j
              have hfl := Tryz.fieldID
              go_wp2_with (at_builtin; refine wpList_append_own_at _ rfl _ _ 27 rfl W11.heap.size 3 i0 (.int .i64 0) 1 8 Tryz.underlying27 HI.out HI0.out HI1.out HI2.out rfl (by decide) _ _ _ rfl (hO2.alloc _) ⟨Wc.heap.size, 0, none⟩ 1 1 [.int .i64 x.id] rfl rfl (cell_one_new _ _ _) (one_oneCell rfl) ?c3 ?c4 ?c5 ?_)
              case c3 => unfold maxLen; omega
              case c4 => omega
              case c5 => simp; omega
              intro v2 Wc' hown' hgrow _ hat
              obtain ⟨hk2, hD2⟩ := app_apart hO2 hO1 (apart_symm hD.out) hgrow hat
              replace hbw := below_append hbw (by omega) hO2 hgrow
              replace hO2 : Wc'.ownsRow W11.heap.size 3 1 v2 (someL (tiesL k) k.ds k.ls.length ⟨(p : Int), (p : Int) + 1⟩ j ++ [x.id]).length ((someL (tiesL k) k.ds k.ls.length ⟨(p : Int), (p : Int) + 1⟩ j ++ [x.id]).map (Value.int .i64)) := by rw [List.length_append, List.map_append]; exact hown'
              replace hO1 := hk2
              replace hD := Lib.hid (apart_symm hD2)
              clear hown' hgrow hat hk2 hD2 hbs hll hfl
              go_wp2_with fail
              go_roundw
              case rel => exact ⟨j + 1, by omega, by go_num, by rw [HSN.out]; exact hO1, by rw [HMN.out]; exact hO2, hD, hbw⟩
              case measure => simp [intOf]; omega
            | false =>
              rw [if_neg (fun h => absurd (hmr.out.2 h) (by decide))] at HMN
              clear hmr
              go_wp2_with (first | (refine wpList_store_rowTo rfl 124 _ _ rfl rfl Wa.heap.size (hgA (F)) rfl rfl 124 _ (heap_alloc_new Wa _) (by kernel_rfl) (by rw [hgA_size]; kernel_rfl) (by rw [hgA_size]; kernel_rfl) ?_; rw [← HWb.out]))
              go_roundw
              case rel => exact ⟨j + 1, by omega, by go_num, by rw [HSN.out]; exact hO1, by rw [HMN.out, List.append_nil]; exact hO2, hD, hbw⟩
              case measure => simp [intOf]; omega
          · rw [if_neg hp0] at HSN
            have hT : TiesAt W7 W7.heap.size (.slice A (tiesL k).length cap) (tiesL k) := (HT.out.below hbw).more (by have := hbw.size; omega)
            go_wp2_with (first | (refine wpList_store_rowTo rfl 124 _ _ rfl rfl W6.heap.size (hgA (halfN (mN k) M)) rfl rfl 124 _ (heap_alloc_new W6 _) (by kernel_rfl) (by rw [hgA_size]; kernel_rfl) (by rw [hgA_size]; kernel_rfl) ?_; rw [← HW7.out]) | (refine wpList_load_row rfl 173 _ rfl k1 rfl 173 #[.int .i64 ((mN k : Nat) : Int), .slice A (tiesL k).length cap, .int .i64 (markB k.ls.length (j : Int)), .int .i64 (markB k.ls.length ((j : Int) + 1)), .int .i64 (markB k.ls.length (j : Int)), .int .i64 ((p : Int) + 1), .int .i64 (p), .int .i64 (markB k.ls.length ((j : Int) + 1)), .int .i64 (p), .int .i64 ((p : Int) + 1)] (0, 0) _ r5 Tryz.underlying173 rfl (by kernel_rfl) ?_))
            all_goals (try (exfalso; omega))
            refine (HRC.out W7 hT).mono ?_
            rintro e Wa ⟨F, r, rfl, hres, hF⟩
            replace hO1 := own_later hO1 hF
            replace hO2 := own_later hO2 hF
            replace hbw := below_grown hbw (by have := hbw.size; omega) hF
            clear hF hT HRC r5
            obtain ⟨Wb, hWb⟩ : ∃ Wb, Wb = (Wa.alloc (.cells #[.int .i64 0, .int .i64 0, .int .i64 0, .int .i64 0, .int .i64 0, .int .i64 0, .int .i64 0, .int .i64 0, .int .i64 0, .int .i64 0, .int .i64 0, .int .i64 0, .int .i64 0, .int .i64 0, .int .i64 0, .int .i64 0, .int .i64 0, .int .i64 0, .int .i64 0, .int .i64 0, .int .i64 0, .int .i64 0, .int .i64 0, .int .i64 0, .int .i64 0, .int .i64 0, .int .i64 0, .int .i64 0, .int .i64 0, .int .i64 0, .int .i64 0, .int .i64 0, .int .i64 0, .int .i64 0, .int .i64 0, .int .i64 0, .int .i64 0, .int .i64 0, .int .i64 0, .int .i64 0, .int .i64 0] 124)).setRow Wa.heap.size (hgA F) := ⟨_, rfl⟩
            have pb : Below Wa.heap.size Wa Wb := by rw [hWb]; exact below_setRow (below_alloc _ _) (Nat.le_refl _) _
            have HWb := Lib.hid hWb
            replace hO1 := own_later hO1 pb
            replace hO2 := own_later hO2 pb
            replace hbw := below_grown hbw (by have := hbw.size; omega) pb
            clear pb hWb
            have hmr : Hid ((r = true ↔ 0 < mostZ (tiesL k) ⟨markB k.ls.length (j : Int), markB k.ls.length ((j : Int) + 1)⟩ ⟨p, (p : Int) + 1⟩)) := reach_some hres
            clear hres
            cases r with
            | true =>
              rw [if_pos (hmr.out.1 rfl)] at HMN
              clear hmr
              have q1 := (hbw.block _ hs1).trans Q1.out
              have hRec : Recs Wb Wb.heap.size (.slice A2 k.ds.length c2) k.ds := (HRE.out.below hbw).more (by have := hbw.size; omega)
              have y0 := Joins.cell_of_block q1 0
              have y1 := Joins.cell_of_block q1 1
              have yz := size_of_block q1
              go_wp2_with (first | (refine wpList_store_rowTo rfl 124 _ _ rfl rfl Wa.heap.size (hgA (F)) rfl rfl 124 _ (heap_alloc_new Wa _) (by kernel_rfl) (by rw [hgA_size]; kernel_rfl) (by rw [hgA_size]; kernel_rfl) ?_; rw [← HWb.out]))
              all_goals (try (exfalso; omega))
              refine (atD_c k.ds (.slice A2 k.ds.length c2) k.ls.length j x Wb hRec HX.out).mono ?_
              rintro e Wc ⟨rfl, hF⟩
              replace hO1 := own_later hO1 hF
              replace hO2 := own_later hO2 hF
              replace hbw := below_grown hbw (by have := hbw.size; omega) hF
              clear hF hRec q1 y0 y1 yz
              have hbs := hbw.size
              have hll := someL_len (tiesL k) k.ds k.ls.length ⟨p, (p : Int) + 1⟩ j
              have hfl := Tryz.fieldID
              go_wp2_with (at_builtin; refine wpList_append_own_at _ rfl _ _ 27 rfl W11.heap.size 3 i0 (.int .i64 0) 1 8 Tryz.underlying27 HI.out HI0.out HI1.out HI2.out rfl (by decide) _ _ _ rfl (hO2.alloc _) ⟨Wc.heap.size, 0, none⟩ 1 1 [.int .i64 x.id] rfl rfl (cell_one_new _ _ _) (one_oneCell rfl) ?c3 ?c4 ?c5 ?_)
              case c3 => unfold maxLen; omega
              case c4 => omega
              case c5 => simp; omega
              intro v2 Wc' hown' hgrow _ hat
              obtain ⟨hk2, hD2⟩ := app_apart hO2 hO1 (apart_symm hD.out) hgrow hat
              replace hbw := below_append hbw (by omega) hO2 hgrow
              replace hO2 : Wc'.ownsRow W11.heap.size 3 1 v2 (someL (tiesL k) k.ds k.ls.length ⟨(p : Int), (p : Int) + 1⟩ j ++ [x.id]).length ((someL (tiesL k) k.ds k.ls.length ⟨(p : Int), (p : Int) + 1⟩ j ++ [x.id]).map (Value.int .i64)) := by rw [List.length_append, List.map_append]; exact hown'
              replace hO1 := hk2
              replace hD := Lib.hid (apart_symm hD2)
              clear hown' hgrow hat hk2 hD2 hbs hll hfl
              go_wp2_with fail
              go_roundw
              case rel => exact ⟨j + 1, by omega, by go_num, by rw [HSN.out, List.append_nil]; exact hO1, by rw [HMN.out]; exact hO2, hD, hbw⟩
              case measure => simp [intOf]; omega
            | false =>
              rw [if_neg (fun h => absurd (hmr.out.2 h) (by decide))] at HMN
              clear hmr
              go_wp2_with (first | (refine wpList_store_rowTo rfl 124 _ _ rfl rfl Wa.heap.size (hgA (F)) rfl rfl 124 _ (heap_alloc_new Wa _) (by kernel_rfl) (by rw [hgA_size]; kernel_rfl) (by rw [hgA_size]; kernel_rfl) ?_; rw [← HWb.out]))
              go_roundw
              case rel => exact ⟨j + 1, by omega, by go_num, by rw [HSN.out, List.append_nil]; exact hO1, by rw [HMN.out, List.append_nil]; exact hO2, hD, hbw⟩
              case measure => simp [intOf]; omega
        · obtain rfl : j = k.ds.length := by omega
          go_wp2_with fail
          refine bodyPost_ret (v := .tuple #[u14, u15, .int .i64 0]) ?_ rfl ⟨u14, u15, by rw [HEE.out], ⟨by rw [HSS.out.1]; exact own_less hO1 hwB, by rw [HSS.out.2]; exact own_less hO2 hwB⟩, below_then HQB.out hbw⟩
          simp [results, Tryz.results123, go_sem]
    · have hcf : canB (tiesL k) = false := by simpa using hcc
      rw [hcf]
      have HEE := Lib.hid (show sinkE k id = 9 by rw [HE2.out, if_neg hcc])
      have HSS := Lib.hid (show sinkS k id = [] ∧ sinkM k id = [] by unfold sinkS sinkM; rw [HEE.out]; exact ⟨rfl, rfl⟩)
      clear hcc hcf hT hre
      go_wp2_with fail
      refine bodyPost_ret (v := .tuple #[.slice none 0 0, .slice none 0 0, .int .i64 (9)]) ?_ rfl ⟨_, _, by rw [HEE.out], ⟨by rw [HSS.out.1]; exact World.ownsRow_nil _ _ _ _, by rw [HSS.out.2]; exact World.ownsRow_nil _ _ _ _⟩, qb⟩
      simp [results, Tryz.results123, go_sem]
end Go.Proofs.YtnedcclmfokdnaaGreat
