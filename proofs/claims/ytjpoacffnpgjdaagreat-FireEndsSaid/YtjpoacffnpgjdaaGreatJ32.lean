/- Texts joined: FProgEnds. -/
import Derived.Test.YtjpoacffnpgjdaaGreatJ31
import Derived.Test.YtjpoacffnpgjdaaGreatJ17
import Derived.Test.YtjpoacffnpgjdaaGreatJ7
/- CheckEnds: by the program (written by tools/gencheckends.py). -/
namespace Go.Proofs.YtjpoacffnpgjdaaGreat
open Go Go.RowKit Go.Shelf
attribute [local go_sem] Oper.semAt_some Rel RelAt RelUpon

theorem isE_eq (h i : Int) : isE h i = fun a => decide (a = (h, i)) := by
  funext a; cases a; unfold isE; rw [Bool.eq_iff_iff]; simp
theorem proof_eq {f : Fi} {S : List Lk} (hS : Srt S f.ls) (hd : f.ls.Pairwise (fun a b => a.id ≠ b.id)) (p : Spt) (b : Bnd) :
    proofB f f.ls p b = ((b.lo == endLo f f.ls p && b.hi == endHi f f.ls p) && (lowsL f S p).any (isE b.lo b.low) && (highsL f S p).any (isE b.hi b.high)) := by
  rw [isE_eq, isE_eq, holds_low hS hd, holds_high hS hd]
  unfold proofB
  by_cases h1 : b.lo = endLo f f.ls p
  · by_cases h2 : b.hi = endHi f f.ls p
    · rw [h1, h2]; simp
    · simp [h2]
  · simp [h1]
set_option maxRecDepth 100000 in
set_option maxHeartbeats 8000000 in
theorem CheckEnds_c (f : Fi) (vl : Value) (p : Spt) (b : Bnd) (w : World) (hl : Lks w w.heap.size vl f.ls) :
    Calls Tryz.prog 28 #[fiV f vl, sV p, bndV b] w fun e w' => e = .returned (.int .i64 (chkEndsI f p b)) ∧ Below w.heap.size w w' := by
  obtain ⟨A, cap, rfl⟩ := hl.form
  obtain ⟨q0, q1, q2, qs, qb⟩ := three_new w (.cells #[.int .i64 f.rise, .int .i64 f.fall, .int .i64 f.up, .int .i64 f.down, .slice A f.ls.length cap] 24) (.cells #[.int .i64 p.foot, .int .i64 p.hour] 26) (.cells #[.int .i64 b.lo, .int .i64 b.hi, .int .i64 b.low, .int .i64 b.high] 56)
  have hK' := fun ve errs W (hb : Below w.heap.size w W) => known_c f (.slice A f.ls.length cap) ve errs W (hl.later hb)
  have hfb := Tryz.fieldBnd0
  obtain ⟨R, hR⟩ : ∃ r, r = chkEndsI f p b := ⟨_, rfl⟩
  rw [← hR]
  have HR := Lib.hid hR
  clear hR
  unfold fiV at hK' ⊢
  unfold sV bndV
  go_enter Tryz.func28, Tryz.ntmps28
  go_wp2_with fail
  have QS := Lib.hid qs
  clear qs
  generalize ((w.alloc _).alloc _).alloc _ = W3 at q0 q1 q2 QS qb ⊢
  refine wp_region_looseN [0, 1] [2, 3, 4, 5] [9] [6, 7, 8] [10, 11] [some 7] [.cells #[.int .i64 0, .int .i64 0, .int .i64 0, .int .i64 0, .nilFunc] 114] (by kernel_rfl) (by kernel_rfl) (by intro c a d v w h; cases d <;> exact h) (by intro c a d v w h; cases d <;> exact h) rfl ?_ ?_
  · intro r i hri
    match r, hri with
    | 0, hri => cases hri; exact ⟨_, _, rfl, rfl, rfl, rfl, fun a u => by simp [execOp, go_sem, ptrV]⟩
  · intro u hu
    replace q0 := (hu.block _ (size_of_block q0)).trans q0
    replace q1 := (hu.block _ (size_of_block q1)).trans q1
    replace q2 := (hu.block _ (size_of_block q2)).trans q2
    replace qb := below_then qb hu
    have zq0 := size_of_block q0
    have cq00 := Joins.cell_of_block q0 0
    have cq01 := Joins.cell_of_block q0 1
    have cq02 := Joins.cell_of_block q0 2
    have cq03 := Joins.cell_of_block q0 3
    have cq04 := Joins.cell_of_block q0 4
    have zq1 := size_of_block q1
    have cq10 := Joins.cell_of_block q1 0
    have cq11 := Joins.cell_of_block q1 1
    have zq2 := size_of_block q2
    have hcg : ∀ (g : Gr u) b o, b < u.heap.size → g.val.cell? ⟨b, o, none⟩ = u.cell? ⟨b, o, none⟩ := fun g b o h => (bcell g.b).1 b o h
    simp only [pick, List.filterMap_cons, List.filterMap_nil, List.getElem?_toArray, List.getElem?_cons_succ, List.getElem?_cons_zero]
    iterate 2 (refine wpRel_step (fun K hK => ?_); go_simp; refine hK _ ?_; clear hK K)
    refine wpRel_nil fun V0 hb0 => ?_
    clear hcg cq00 cq01 cq02 cq03 cq04 cq10 cq11
    have C0 := below_then qb hb0
    have D0 := hb0
    refine wpChain_step rfl rfl fun K hK => ?_
    go_simp
    refine hK _ _ (below_alloc _ _) fun V1 hu1 => ?_
    clear hK K
    have y1 := (hu1.block _ (by simp)).trans (heap_alloc_new V0 (.cells #[.int .i64 p.foot, .int .i64 p.hour] 26))
    have S1 := below_then (below_alloc V0 (.cells #[.int .i64 p.foot, .int .i64 p.hour] 26)) hu1
    have C1 := below_then C0 S1
    have D1 := below_then D0 S1
    refine wpChain_step rfl rfl fun K hK => ?_
    go_simp
    refine (checkSpots_c _ [p] V1 (spts1 y1)).mono ?_
    rintro e X1 ⟨rfl, hx1⟩
    rw [show (if [p].all spotB then (0 : Int) else 1) = spotE p by simp [spotE]]
    generalize hpe : spotE p = pe
    refine hK _ _ hx1 fun V2 hu2 => ?_
    clear hK K
    have S2 := below_then hx1 hu2
    have C2 := below_then C1 S2
    have D2 := below_then D1 S2
    refine wpChain_step rfl rfl fun K hK => ?_
    go_simp
    refine hK _ _ (below_alloc _ _) fun V3 hu3 => ?_
    clear hK K
    have y3 := (hu3.block _ (by simp)).trans (heap_alloc_new V2 (.cells #[.int .i64 pe] 30))
    have S3 := below_then (below_alloc V2 (.cells #[.int .i64 pe] 30)) hu3
    have C3 := below_then C2 S3
    have D3 := below_then D2 S3
    refine wpChain_step rfl rfl fun K hK => ?_
    go_simp
    refine (hK' _ [pe] V3 C3 (ints1 y3)).mono ?_
    rintro e X3 ⟨sv, rfl, hz, hn, hx3⟩
    refine hK _ _ hx3 fun V4 hu4 => ?_
    clear hK K
    have S4 := below_then hx3 hu4
    have C4 := below_then C3 S4
    have D4 := below_then D3 S4
    obtain ⟨row, hrow, h5, h1c⟩ := sight_row hz hn
    have N10 : Hid (∀ k, k < X3.heap.size → V4.heap[k]? = X3.heap[k]?) := fun k h => hu4.block k h
    have Qq0 := (D4.block _ zq0).trans q0
    have Qq1 := (D4.block _ zq1).trans q1
    have Qq2 := (D4.block _ zq2).trans q2
    have n10 := hu4.size
    have n9 := hx3.size
    clear y1 y3 C0 C1 C2 C3 D0 D1 D2 D3 D4 S1 S2 S3 S4 hu1 hu2 hu3 hu4 hK' hb0 q0 q1 q2
    have HZ := Lib.hid hz
    have HN := Lib.hid hn
    have HROW := Lib.hid hrow
    clear hz hn
    generalize hke : knownE f [pe] = ke at HZ HN ⊢
    rw [hrow]
    refine wpPure_step (.tuple #[.agg row, .int .i64 ke]) rfl (fun u => rfl) ?_
    refine wpPure_step (.agg row) rfl (fun u => rfl) ?_
    refine wpPure_step (.int .i64 ke) rfl (fun u => rfl) ?_
    intro ks hk hall hH
    obtain ⟨k1, rfl⟩ : ∃ k1, ks = [some k1] := by
      match ks, hk with
      | [none], _ => exact absurd rfl (hall 0)
      | [some k1], _ => exact ⟨k1, rfl⟩
    obtain ⟨o1, ge1, lt1⟩ := hH.obj 0 k1 rfl
    have ou := hH.out 0 k1 rfl (V3.heap.size, X3.heap.size) (by simp)
    rw [show ([Obj.cells #[.int .i64 0, .int .i64 0, .int .i64 0, .int .i64 0, .nilFunc] 114])[0]? = some (.cells #[.int .i64 0, .int .i64 0, .int .i64 0, .int .i64 0, .nilFunc] 114) from rfl] at o1
    rw [QS.out] at ge1
    clear hH hall hk
    have hkq0 : k1 ≠ w.heap.size := by omega
    have hkq1 : k1 ≠ w.heap.size + 1 := by omega
    have hkq2 : k1 ≠ w.heap.size + 1 + 1 := by omega
    show wpList _ _ _ _ _ _
    simp only [deco, ptrV]
    refine wpList_store_rowTo rfl 114 _ _ rfl rfl k1 row rfl rfl 114 _ o1 (by rw [Tryz.zSightSize, h5]) (by rw [h5]; rfl) h1c ?_
    have r1 := setRow_heap V4 k1 _ row _ _ o1
    have rq0 := (setRow_other V4 k1 (w.heap.size) row (Ne.symm hkq0)).trans Qq0
    have rq1 := (setRow_other V4 k1 (w.heap.size + 1) row (Ne.symm hkq1)).trans Qq1
    have rq2 := (setRow_other V4 k1 (w.heap.size + 1 + 1) row (Ne.symm hkq2)).trans Qq2
    have B11 := below_setRow C4 (show w.heap.size ≤ k1 by omega) row
    have K11 : Hid (∀ k, V3.heap.size ≤ k → k < X3.heap.size → (V4.setRow k1 row).heap[k]? = X3.heap[k]?) := fun k h1 h2 => (setRow_other V4 k1 k row (by omega)).trans (N10.out k h2)
    have z11 := size_setRow V4 k1 row
    have n11 : X3.heap.size ≤ (V4.setRow k1 row).heap.size := by omega
    generalize V4.setRow k1 row = W11 at r1 rq0 rq1 rq2 B11 K11 n11 z11 ⊢
    clear o1 Qq0 Qq1 Qq2 C4 N10 z11 n10 n9 ou lt1
    have HE : Hid (endsE f p = ke) := by show endsE f p = ke; unfold endsE; rw [hpe, hke]
    by_cases h0 : ke = 0
    · obtain ⟨S, hS, hKn⟩ := HZ.out h0
      obtain ⟨gf, lb, hform⟩ := hKn.form
      have hgv := hKn.gives gf lb hform W11 (fun k h1 h2 => K11.out k h1 h2) n11
      obtain rfl : row = #[.int .i64 f.rise, .int .i64 f.fall, .int .i64 f.up, .int .i64 f.down, .func (.func gf) #[] lb] := by
        have e := HROW.out.symm.trans hform
        simpa [siV] using e
      subst h0
      have hp : spotB p = true := by
        have h1 := (known_zero hke).2.1
        rw [first1, ← hpe] at h1
        exact spotE_iff.1 h1
      have hfo := fire_ok (known_zero hke).1
      have HPR := Lib.hid (proof_eq hS.srt hfo.ids p b)
      have HP := Lib.hid hp
      have HS := Lib.hid hS
      have hbd := fun W (g : Gives Tryz.prog W.heap.size 0 fireU (.func (.func gf) #[] lb) encLk S W) => bounds_c f S f.ls gf lb p W HS.out HP.out g
      unfold bndV bndI at hbd
      have HBD := Lib.hid hbd
      clear hbd
      have t1 := r1
      have tp := rq1
      have tb := rq2
      have BB := B11
      have GG := hgv
      have hv0 : Hid (R = if proofB f f.ls p b then 0 else 8) := by show R = _; rw [HR.out]; unfold chkEndsI; rw [if_neg (by rw [HE.out]; simp)]
      clear r1 rq0 rq1 rq2 B11 hgv hKn hform HZ HN HROW K11 n11 hS hpe hke h5 h1c hp hfo
      have hne := fun W => Tryz.neSp b.lo b.hi (endLo f f.ls p) (endHi f f.ls p) W
      cases hsp : (b.lo == endLo f f.ls p && b.hi == endHi f f.ls p) with
      | false =>
        rw [hsp] at hne
        simp only [Bool.not_false] at hne
        have HV : Hid (R = 8) := by show R = _; rw [hv0.out, HPR.out, hsp]; rfl
        clear hsp hv0 HPR HE
        go_wp2_with fail
        refine wp_region_planW [.f [0, 1, 2, 3], .s 4, .f [5, 6, 7, 8, 9, 11, 12, 13, 14, 15, 16], .s 10, .s 17, .f [18, 19, 20, 21, 22, 24, 25, 26, 27, 28, 29], .s 23, .s 30, .f [31, 32]] [] (by kernel_rfl) (by kernel_rfl) (by intro c a d v w h; cases d <;> exact h) ?_
        intro u hu0
        replace t1 := (hu0.block _ (size_of_block t1)).trans t1
        replace tp := (hu0.block _ (size_of_block tp)).trans tp
        replace tb := (hu0.block _ (size_of_block tb)).trans tb
        replace BB := below_then BB hu0
        replace GG := (GG.later hu0).more hu0.size
        clear hu0
        refine wpPlanW_r ?_
        simp only [pick, List.filterMap_cons, List.filterMap_nil, List.getElem?_toArray, List.getElem?_cons_succ, List.getElem?_cons_zero]
        have s0 := Joins.cell_of_block t1 0
        have s1 := Joins.cell_of_block t1 1
        have s2 := Joins.cell_of_block t1 2
        have s3 := Joins.cell_of_block t1 3
        have s4 := Joins.cell_of_block t1 4
        have p0 := Joins.cell_of_block tp 0
        have p1 := Joins.cell_of_block tp 1
        have b0 := Joins.cell_of_block tb 0
        have b1 := Joins.cell_of_block tb 1
        have b2 := Joins.cell_of_block tb 2
        have b3 := Joins.cell_of_block tb 3
        have z1 := size_of_block t1
        have z2 := size_of_block tp
        have z3 := size_of_block tb
        have hcg : ∀ (g : Gr u) b o, b < u.heap.size → g.val.cell? ⟨b, o, none⟩ = u.cell? ⟨b, o, none⟩ := fun g b o h => (bcell g.b).1 b o h
        refine WR.step (by kernel_rfl) (fun K hK => ?_); go_simp; refine hK _ ?_; clear hK K
        refine WR.step (by kernel_rfl) (fun K hK => ?_); go_simp; refine hK _ ?_; clear hK K
        refine WR.step (by kernel_rfl) (fun K hK => ?_); go_simp; refine hK _ ?_; clear hK K
        refine WR.step (by kernel_rfl) (fun K hK => ?_); go_simp; refine hK _ ?_; clear hK K
        go_simp
        refine WR.nil fun V1 hb1 => ?_
        clear hcg s0 s1 s2 s3 s4 p0 p1 b0 b1 b2 b3 z1 z2 z3
        replace t1 := (hb1.block _ (size_of_block t1)).trans t1
        replace tp := (hb1.block _ (size_of_block tp)).trans tp
        replace tb := (hb1.block _ (size_of_block tb)).trans tb
        replace BB := below_then BB hb1
        replace GG := (GG.later hb1).more hb1.size
        clear hb1
        refine wpPlanW_call rfl (by kernel_rfl) fun K hK => ?_
        go_simp
        refine (HBD.out V1 GG).mono ?_
        rintro e X ⟨rfl, hx⟩
        refine hK _ _ hx fun V2 hu2 => ?_
        clear hK K
        have hv2 := below_then hx hu2
        clear hx hu2
        replace t1 := (hv2.block _ (size_of_block t1)).trans t1
        replace tp := (hv2.block _ (size_of_block tp)).trans tp
        replace tb := (hv2.block _ (size_of_block tb)).trans tb
        replace BB := below_then BB hv2
        replace GG := (GG.later hv2).more hv2.size
        clear hv2
        refine wpPlanW_r ?_
        simp only [pick, List.filterMap_cons, List.filterMap_nil, List.getElem?_toArray, List.getElem?_cons_succ, List.getElem?_cons_zero]
        have s0 := Joins.cell_of_block t1 0
        have s1 := Joins.cell_of_block t1 1
        have s2 := Joins.cell_of_block t1 2
        have s3 := Joins.cell_of_block t1 3
        have s4 := Joins.cell_of_block t1 4
        have p0 := Joins.cell_of_block tp 0
        have p1 := Joins.cell_of_block tp 1
        have b0 := Joins.cell_of_block tb 0
        have b1 := Joins.cell_of_block tb 1
        have b2 := Joins.cell_of_block tb 2
        have b3 := Joins.cell_of_block tb 3
        have z1 := size_of_block t1
        have z2 := size_of_block tp
        have z3 := size_of_block tb
        have hcg : ∀ (g : Gr V2) b o, b < V2.heap.size → g.val.cell? ⟨b, o, none⟩ = V2.cell? ⟨b, o, none⟩ := fun g b o h => (bcell g.b).1 b o h
        refine WR.step (by kernel_rfl) (fun K hK => ?_); go_simp; refine hK _ ?_; clear hK K
        refine WR.step (by kernel_rfl) (fun K hK => ?_); go_simp; refine hK _ ?_; clear hK K
        refine WR.val (.bool true) (by kernel_rfl) (by intro g; kernel_rfl) ?_
        refine WR.pass (by kernel_rfl) ?_
        refine WR.pass (by kernel_rfl) ?_
        refine WR.pass (by kernel_rfl) ?_
        refine WR.pass (by kernel_rfl) ?_
        refine WR.pass (by kernel_rfl) ?_
        refine WR.pass (by kernel_rfl) ?_
        refine WR.pass (by kernel_rfl) ?_
        refine WR.pass (by kernel_rfl) ?_
        go_simp
        refine WR.nil fun V3 hb3 => ?_
        clear hcg s0 s1 s2 s3 s4 p0 p1 b0 b1 b2 b3 z1 z2 z3
        replace t1 := (hb3.block _ (size_of_block t1)).trans t1
        replace tp := (hb3.block _ (size_of_block tp)).trans tp
        replace tb := (hb3.block _ (size_of_block tb)).trans tb
        replace BB := below_then BB hb3
        replace GG := (GG.later hb3).more hb3.size
        clear hb3
        refine wpPlanW_pass rfl (by kernel_rfl) fun V4 hu4 => ?_
        replace t1 := (hu4.block _ (size_of_block t1)).trans t1
        replace tp := (hu4.block _ (size_of_block tp)).trans tp
        replace tb := (hu4.block _ (size_of_block tb)).trans tb
        replace BB := below_then BB hu4
        replace GG := (GG.later hu4).more hu4.size
        clear hu4
        refine wpPlanW_pass rfl (by kernel_rfl) fun V5 hu5 => ?_
        replace t1 := (hu5.block _ (size_of_block t1)).trans t1
        replace tp := (hu5.block _ (size_of_block tp)).trans tp
        replace tb := (hu5.block _ (size_of_block tb)).trans tb
        replace BB := below_then BB hu5
        replace GG := (GG.later hu5).more hu5.size
        clear hu5
        refine wpPlanW_r ?_
        simp only [pick, List.filterMap_cons, List.filterMap_nil, List.getElem?_toArray, List.getElem?_cons_succ, List.getElem?_cons_zero]
        have s0 := Joins.cell_of_block t1 0
        have s1 := Joins.cell_of_block t1 1
        have s2 := Joins.cell_of_block t1 2
        have s3 := Joins.cell_of_block t1 3
        have s4 := Joins.cell_of_block t1 4
        have p0 := Joins.cell_of_block tp 0
        have p1 := Joins.cell_of_block tp 1
        have b0 := Joins.cell_of_block tb 0
        have b1 := Joins.cell_of_block tb 1
        have b2 := Joins.cell_of_block tb 2
        have b3 := Joins.cell_of_block tb 3
        have z1 := size_of_block t1
        have z2 := size_of_block tp
        have z3 := size_of_block tb
        have hcg : ∀ (g : Gr V5) b o, b < V5.heap.size → g.val.cell? ⟨b, o, none⟩ = V5.cell? ⟨b, o, none⟩ := fun g b o h => (bcell g.b).1 b o h
        refine WR.pass (by kernel_rfl) ?_
        refine WR.val (.bool true) (by kernel_rfl) (by intro g; kernel_rfl) ?_
        refine WR.val (.bool true) (by kernel_rfl) (by intro g; kernel_rfl) ?_
        refine WR.pass (by kernel_rfl) ?_
        refine WR.pass (by kernel_rfl) ?_
        refine WR.pass (by kernel_rfl) ?_
        refine WR.pass (by kernel_rfl) ?_
        refine WR.pass (by kernel_rfl) ?_
        refine WR.pass (by kernel_rfl) ?_
        refine WR.pass (by kernel_rfl) ?_
        refine WR.pass (by kernel_rfl) ?_
        go_simp
        refine WR.nil fun V6 hb6 => ?_
        clear hcg s0 s1 s2 s3 s4 p0 p1 b0 b1 b2 b3 z1 z2 z3
        replace t1 := (hb6.block _ (size_of_block t1)).trans t1
        replace tp := (hb6.block _ (size_of_block tp)).trans tp
        replace tb := (hb6.block _ (size_of_block tb)).trans tb
        replace BB := below_then BB hb6
        replace GG := (GG.later hb6).more hb6.size
        clear hb6
        refine wpPlanW_pass rfl (by kernel_rfl) fun V7 hu7 => ?_
        replace t1 := (hu7.block _ (size_of_block t1)).trans t1
        replace tp := (hu7.block _ (size_of_block tp)).trans tp
        replace tb := (hu7.block _ (size_of_block tb)).trans tb
        replace BB := below_then BB hu7
        replace GG := (GG.later hu7).more hu7.size
        clear hu7
        refine wpPlanW_pass rfl (by kernel_rfl) fun V8 hu8 => ?_
        replace t1 := (hu8.block _ (size_of_block t1)).trans t1
        replace tp := (hu8.block _ (size_of_block tp)).trans tp
        replace tb := (hu8.block _ (size_of_block tb)).trans tb
        replace BB := below_then BB hu8
        replace GG := (GG.later hu8).more hu8.size
        clear hu8
        refine wpPlanW_r ?_
        simp only [pick, List.filterMap_cons, List.filterMap_nil, List.getElem?_toArray, List.getElem?_cons_succ, List.getElem?_cons_zero]
        have s0 := Joins.cell_of_block t1 0
        have s1 := Joins.cell_of_block t1 1
        have s2 := Joins.cell_of_block t1 2
        have s3 := Joins.cell_of_block t1 3
        have s4 := Joins.cell_of_block t1 4
        have p0 := Joins.cell_of_block tp 0
        have p1 := Joins.cell_of_block tp 1
        have b0 := Joins.cell_of_block tb 0
        have b1 := Joins.cell_of_block tb 1
        have b2 := Joins.cell_of_block tb 2
        have b3 := Joins.cell_of_block tb 3
        have z1 := size_of_block t1
        have z2 := size_of_block tp
        have z3 := size_of_block tb
        have hcg : ∀ (g : Gr V8) b o, b < V8.heap.size → g.val.cell? ⟨b, o, none⟩ = V8.cell? ⟨b, o, none⟩ := fun g b o h => (bcell g.b).1 b o h
        refine WR.pass (by kernel_rfl) ?_
        refine WR.val (.bool true) (by kernel_rfl) (by intro g; kernel_rfl) ?_
        go_simp
        refine WR.nil fun V9 hb9 => ?_
        clear hcg s0 s1 s2 s3 s4 p0 p1 b0 b1 b2 b3 z1 z2 z3
        replace t1 := (hb9.block _ (size_of_block t1)).trans t1
        replace tp := (hb9.block _ (size_of_block tp)).trans tp
        replace tb := (hb9.block _ (size_of_block tb)).trans tb
        replace BB := below_then BB hb9
        replace GG := (GG.later hb9).more hb9.size
        clear hb9
        refine wpPlanW_nil ?_
        show wpList _ _ _ _ _ _
        go_wp2_with fail
        refine bodyPost_ret (v := .int .i64 8) ?_ rfl ⟨by rw [HV.out], BB⟩
        simp [results, Tryz.results28, go_sem]
      | true =>
        cases hL : (lowsL f S p).any (isE b.lo b.low) with
        | false =>
          rw [hsp] at hne
          simp only [Bool.not_true] at hne
          have HV : Hid (R = 8) := by show R = _; rw [hv0.out, HPR.out, hsp, hL]; rfl
          clear hsp hv0 HPR HE
          go_wp2_with fail
          refine wp_region_planW [.f [0, 1, 2, 3], .s 4, .f [5, 6, 7, 8, 9, 11, 12, 13, 14, 15, 16], .s 10, .s 17, .f [18, 19, 20, 21, 22, 24, 25, 26, 27, 28, 29], .s 23, .s 30, .f [31, 32]] [] (by kernel_rfl) (by kernel_rfl) (by intro c a d v w h; cases d <;> exact h) ?_
          intro u hu0
          replace t1 := (hu0.block _ (size_of_block t1)).trans t1
          replace tp := (hu0.block _ (size_of_block tp)).trans tp
          replace tb := (hu0.block _ (size_of_block tb)).trans tb
          replace BB := below_then BB hu0
          replace GG := (GG.later hu0).more hu0.size
          clear hu0
          refine wpPlanW_r ?_
          simp only [pick, List.filterMap_cons, List.filterMap_nil, List.getElem?_toArray, List.getElem?_cons_succ, List.getElem?_cons_zero]
          have s0 := Joins.cell_of_block t1 0
          have s1 := Joins.cell_of_block t1 1
          have s2 := Joins.cell_of_block t1 2
          have s3 := Joins.cell_of_block t1 3
          have s4 := Joins.cell_of_block t1 4
          have p0 := Joins.cell_of_block tp 0
          have p1 := Joins.cell_of_block tp 1
          have b0 := Joins.cell_of_block tb 0
          have b1 := Joins.cell_of_block tb 1
          have b2 := Joins.cell_of_block tb 2
          have b3 := Joins.cell_of_block tb 3
          have z1 := size_of_block t1
          have z2 := size_of_block tp
          have z3 := size_of_block tb
          have hcg : ∀ (g : Gr u) b o, b < u.heap.size → g.val.cell? ⟨b, o, none⟩ = u.cell? ⟨b, o, none⟩ := fun g b o h => (bcell g.b).1 b o h
          refine WR.step (by kernel_rfl) (fun K hK => ?_); go_simp; refine hK _ ?_; clear hK K
          refine WR.step (by kernel_rfl) (fun K hK => ?_); go_simp; refine hK _ ?_; clear hK K
          refine WR.step (by kernel_rfl) (fun K hK => ?_); go_simp; refine hK _ ?_; clear hK K
          refine WR.step (by kernel_rfl) (fun K hK => ?_); go_simp; refine hK _ ?_; clear hK K
          go_simp
          refine WR.nil fun V1 hb1 => ?_
          clear hcg s0 s1 s2 s3 s4 p0 p1 b0 b1 b2 b3 z1 z2 z3
          replace t1 := (hb1.block _ (size_of_block t1)).trans t1
          replace tp := (hb1.block _ (size_of_block tp)).trans tp
          replace tb := (hb1.block _ (size_of_block tb)).trans tb
          replace BB := below_then BB hb1
          replace GG := (GG.later hb1).more hb1.size
          clear hb1
          refine wpPlanW_call rfl (by kernel_rfl) fun K hK => ?_
          go_simp
          refine (HBD.out V1 GG).mono ?_
          rintro e X ⟨rfl, hx⟩
          refine hK _ _ hx fun V2 hu2 => ?_
          clear hK K
          have hv2 := below_then hx hu2
          clear hx hu2
          replace t1 := (hv2.block _ (size_of_block t1)).trans t1
          replace tp := (hv2.block _ (size_of_block tp)).trans tp
          replace tb := (hv2.block _ (size_of_block tb)).trans tb
          replace BB := below_then BB hv2
          replace GG := (GG.later hv2).more hv2.size
          clear hv2
          refine wpPlanW_r ?_
          simp only [pick, List.filterMap_cons, List.filterMap_nil, List.getElem?_toArray, List.getElem?_cons_succ, List.getElem?_cons_zero]
          have s0 := Joins.cell_of_block t1 0
          have s1 := Joins.cell_of_block t1 1
          have s2 := Joins.cell_of_block t1 2
          have s3 := Joins.cell_of_block t1 3
          have s4 := Joins.cell_of_block t1 4
          have p0 := Joins.cell_of_block tp 0
          have p1 := Joins.cell_of_block tp 1
          have b0 := Joins.cell_of_block tb 0
          have b1 := Joins.cell_of_block tb 1
          have b2 := Joins.cell_of_block tb 2
          have b3 := Joins.cell_of_block tb 3
          have z1 := size_of_block t1
          have z2 := size_of_block tp
          have z3 := size_of_block tb
          have hcg : ∀ (g : Gr V2) b o, b < V2.heap.size → g.val.cell? ⟨b, o, none⟩ = V2.cell? ⟨b, o, none⟩ := fun g b o h => (bcell g.b).1 b o h
          refine WR.step (by kernel_rfl) (fun K hK => ?_); go_simp; refine hK _ ?_; clear hK K
          refine WR.step (by kernel_rfl) (fun K hK => ?_); go_simp; refine hK _ ?_; clear hK K
          refine WR.val (.bool false) (by kernel_rfl) (by intro g; kernel_rfl) ?_
          refine WR.step (by kernel_rfl) (fun K hK => ?_); go_simp; refine hK _ ?_; clear hK K
          refine WR.step (by kernel_rfl) (fun K hK => ?_); go_simp; refine hK _ ?_; clear hK K
          refine WR.val (.pointer (some ⟨w.heap.size + 1 + 1, 0, none⟩)) (by kernel_rfl) (by intro g; kernel_rfl) ?_
          refine WR.val (.pointer (some ⟨w.heap.size + 1 + 1, 0, none⟩)) (by kernel_rfl) (by intro g; kernel_rfl) ?_
          refine WR.step (by kernel_rfl) (fun K hK => ?_); go_simp; refine hK _ ?_; clear hK K
          refine WR.val (.pointer (some ⟨w.heap.size + 1 + 1, 2, none⟩)) (by kernel_rfl) (by intro g; kernel_rfl) ?_
          refine WR.step (by kernel_rfl) (fun K hK => ?_); go_simp; refine hK _ ?_; clear hK K
          refine WR.val (.agg #[.int .i64 b.lo, .int .i64 b.low]) (by kernel_rfl) (by intro g; kernel_rfl) ?_
          go_simp
          refine WR.nil fun V3 hb3 => ?_
          clear hcg s0 s1 s2 s3 s4 p0 p1 b0 b1 b2 b3 z1 z2 z3
          replace t1 := (hb3.block _ (size_of_block t1)).trans t1
          replace tp := (hb3.block _ (size_of_block tp)).trans tp
          replace tb := (hb3.block _ (size_of_block tb)).trans tb
          replace BB := below_then BB hb3
          replace GG := (GG.later hb3).more hb3.size
          clear hb3
          refine wpPlanW_call rfl (by kernel_rfl) fun K hK => ?_
          go_simp
          refine (lows_c f S (.func (.func gf) #[] lb) p V3 HS.out.slope HP.out HS.out.lookS GG).mono ?_
          rintro e X ⟨gl, ll, rfl, hgl, hx⟩
          refine hK _ _ hx fun V4 hu4 => ?_
          clear hK K
          have hv4 := below_then hx hu4
          replace hgl := (hgl.later hu4).more hu4.size
          clear hx hu4
          replace t1 := (hv4.block _ (size_of_block t1)).trans t1
          replace tp := (hv4.block _ (size_of_block tp)).trans tp
          replace tb := (hv4.block _ (size_of_block tb)).trans tb
          replace BB := below_then BB hv4
          replace GG := (GG.later hv4).more hv4.size
          clear hv4
          refine wpPlanW_call rfl (by kernel_rfl) fun K hK => ?_
          go_simp
          refine (holdsE_c _ b.lo b.low _ V4 hgl).mono ?_
          rintro e X ⟨rfl, hx⟩
          rw [hL]
          refine hK _ _ hx fun V5 hu5 => ?_
          clear hK K
          have hv5 := below_then hx hu5
          clear hx hu5
          replace t1 := (hv5.block _ (size_of_block t1)).trans t1
          replace tp := (hv5.block _ (size_of_block tp)).trans tp
          replace tb := (hv5.block _ (size_of_block tb)).trans tb
          replace BB := below_then BB hv5
          replace GG := (GG.later hv5).more hv5.size
          clear hv5
          clear hgl
          refine wpPlanW_r ?_
          simp only [pick, List.filterMap_cons, List.filterMap_nil, List.getElem?_toArray, List.getElem?_cons_succ, List.getElem?_cons_zero]
          have s0 := Joins.cell_of_block t1 0
          have s1 := Joins.cell_of_block t1 1
          have s2 := Joins.cell_of_block t1 2
          have s3 := Joins.cell_of_block t1 3
          have s4 := Joins.cell_of_block t1 4
          have p0 := Joins.cell_of_block tp 0
          have p1 := Joins.cell_of_block tp 1
          have b0 := Joins.cell_of_block tb 0
          have b1 := Joins.cell_of_block tb 1
          have b2 := Joins.cell_of_block tb 2
          have b3 := Joins.cell_of_block tb 3
          have z1 := size_of_block t1
          have z2 := size_of_block tp
          have z3 := size_of_block tb
          have hcg : ∀ (g : Gr V5) b o, b < V5.heap.size → g.val.cell? ⟨b, o, none⟩ = V5.cell? ⟨b, o, none⟩ := fun g b o h => (bcell g.b).1 b o h
          refine WR.val (.bool true) (by kernel_rfl) (by intro g; kernel_rfl) ?_
          refine WR.val (.bool true) (by kernel_rfl) (by intro g; kernel_rfl) ?_
          refine WR.val (.bool true) (by kernel_rfl) (by intro g; kernel_rfl) ?_
          refine WR.pass (by kernel_rfl) ?_
          refine WR.pass (by kernel_rfl) ?_
          refine WR.pass (by kernel_rfl) ?_
          refine WR.pass (by kernel_rfl) ?_
          refine WR.pass (by kernel_rfl) ?_
          refine WR.pass (by kernel_rfl) ?_
          refine WR.pass (by kernel_rfl) ?_
          refine WR.pass (by kernel_rfl) ?_
          go_simp
          refine WR.nil fun V6 hb6 => ?_
          clear hcg s0 s1 s2 s3 s4 p0 p1 b0 b1 b2 b3 z1 z2 z3
          replace t1 := (hb6.block _ (size_of_block t1)).trans t1
          replace tp := (hb6.block _ (size_of_block tp)).trans tp
          replace tb := (hb6.block _ (size_of_block tb)).trans tb
          replace BB := below_then BB hb6
          replace GG := (GG.later hb6).more hb6.size
          clear hb6
          refine wpPlanW_pass rfl (by kernel_rfl) fun V7 hu7 => ?_
          replace t1 := (hu7.block _ (size_of_block t1)).trans t1
          replace tp := (hu7.block _ (size_of_block tp)).trans tp
          replace tb := (hu7.block _ (size_of_block tb)).trans tb
          replace BB := below_then BB hu7
          replace GG := (GG.later hu7).more hu7.size
          clear hu7
          refine wpPlanW_pass rfl (by kernel_rfl) fun V8 hu8 => ?_
          replace t1 := (hu8.block _ (size_of_block t1)).trans t1
          replace tp := (hu8.block _ (size_of_block tp)).trans tp
          replace tb := (hu8.block _ (size_of_block tb)).trans tb
          replace BB := below_then BB hu8
          replace GG := (GG.later hu8).more hu8.size
          clear hu8
          refine wpPlanW_r ?_
          simp only [pick, List.filterMap_cons, List.filterMap_nil, List.getElem?_toArray, List.getElem?_cons_succ, List.getElem?_cons_zero]
          have s0 := Joins.cell_of_block t1 0
          have s1 := Joins.cell_of_block t1 1
          have s2 := Joins.cell_of_block t1 2
          have s3 := Joins.cell_of_block t1 3
          have s4 := Joins.cell_of_block t1 4
          have p0 := Joins.cell_of_block tp 0
          have p1 := Joins.cell_of_block tp 1
          have b0 := Joins.cell_of_block tb 0
          have b1 := Joins.cell_of_block tb 1
          have b2 := Joins.cell_of_block tb 2
          have b3 := Joins.cell_of_block tb 3
          have z1 := size_of_block t1
          have z2 := size_of_block tp
          have z3 := size_of_block tb
          have hcg : ∀ (g : Gr V8) b o, b < V8.heap.size → g.val.cell? ⟨b, o, none⟩ = V8.cell? ⟨b, o, none⟩ := fun g b o h => (bcell g.b).1 b o h
          refine WR.pass (by kernel_rfl) ?_
          refine WR.val (.bool true) (by kernel_rfl) (by intro g; kernel_rfl) ?_
          go_simp
          refine WR.nil fun V9 hb9 => ?_
          clear hcg s0 s1 s2 s3 s4 p0 p1 b0 b1 b2 b3 z1 z2 z3
          replace t1 := (hb9.block _ (size_of_block t1)).trans t1
          replace tp := (hb9.block _ (size_of_block tp)).trans tp
          replace tb := (hb9.block _ (size_of_block tb)).trans tb
          replace BB := below_then BB hb9
          replace GG := (GG.later hb9).more hb9.size
          clear hb9
          refine wpPlanW_nil ?_
          show wpList _ _ _ _ _ _
          go_wp2_with fail
          refine bodyPost_ret (v := .int .i64 8) ?_ rfl ⟨by rw [HV.out], BB⟩
          simp [results, Tryz.results28, go_sem]
        | true =>
          cases hH : (highsL f S p).any (isE b.hi b.high) with
          | false =>
            rw [hsp] at hne
            simp only [Bool.not_true] at hne
            have HV : Hid (R = 8) := by show R = _; rw [hv0.out, HPR.out, hsp, hL, hH]; rfl
            clear hsp hv0 HPR HE
            go_wp2_with fail
            refine wp_region_planW [.f [0, 1, 2, 3], .s 4, .f [5, 6, 7, 8, 9, 11, 12, 13, 14, 15, 16], .s 10, .s 17, .f [18, 19, 20, 21, 22, 24, 25, 26, 27, 28, 29], .s 23, .s 30, .f [31, 32]] [] (by kernel_rfl) (by kernel_rfl) (by intro c a d v w h; cases d <;> exact h) ?_
            intro u hu0
            replace t1 := (hu0.block _ (size_of_block t1)).trans t1
            replace tp := (hu0.block _ (size_of_block tp)).trans tp
            replace tb := (hu0.block _ (size_of_block tb)).trans tb
            replace BB := below_then BB hu0
            replace GG := (GG.later hu0).more hu0.size
            clear hu0
            refine wpPlanW_r ?_
            simp only [pick, List.filterMap_cons, List.filterMap_nil, List.getElem?_toArray, List.getElem?_cons_succ, List.getElem?_cons_zero]
            have s0 := Joins.cell_of_block t1 0
            have s1 := Joins.cell_of_block t1 1
            have s2 := Joins.cell_of_block t1 2
            have s3 := Joins.cell_of_block t1 3
            have s4 := Joins.cell_of_block t1 4
            have p0 := Joins.cell_of_block tp 0
            have p1 := Joins.cell_of_block tp 1
            have b0 := Joins.cell_of_block tb 0
            have b1 := Joins.cell_of_block tb 1
            have b2 := Joins.cell_of_block tb 2
            have b3 := Joins.cell_of_block tb 3
            have z1 := size_of_block t1
            have z2 := size_of_block tp
            have z3 := size_of_block tb
            have hcg : ∀ (g : Gr u) b o, b < u.heap.size → g.val.cell? ⟨b, o, none⟩ = u.cell? ⟨b, o, none⟩ := fun g b o h => (bcell g.b).1 b o h
            refine WR.step (by kernel_rfl) (fun K hK => ?_); go_simp; refine hK _ ?_; clear hK K
            refine WR.step (by kernel_rfl) (fun K hK => ?_); go_simp; refine hK _ ?_; clear hK K
            refine WR.step (by kernel_rfl) (fun K hK => ?_); go_simp; refine hK _ ?_; clear hK K
            refine WR.step (by kernel_rfl) (fun K hK => ?_); go_simp; refine hK _ ?_; clear hK K
            go_simp
            refine WR.nil fun V1 hb1 => ?_
            clear hcg s0 s1 s2 s3 s4 p0 p1 b0 b1 b2 b3 z1 z2 z3
            replace t1 := (hb1.block _ (size_of_block t1)).trans t1
            replace tp := (hb1.block _ (size_of_block tp)).trans tp
            replace tb := (hb1.block _ (size_of_block tb)).trans tb
            replace BB := below_then BB hb1
            replace GG := (GG.later hb1).more hb1.size
            clear hb1
            refine wpPlanW_call rfl (by kernel_rfl) fun K hK => ?_
            go_simp
            refine (HBD.out V1 GG).mono ?_
            rintro e X ⟨rfl, hx⟩
            refine hK _ _ hx fun V2 hu2 => ?_
            clear hK K
            have hv2 := below_then hx hu2
            clear hx hu2
            replace t1 := (hv2.block _ (size_of_block t1)).trans t1
            replace tp := (hv2.block _ (size_of_block tp)).trans tp
            replace tb := (hv2.block _ (size_of_block tb)).trans tb
            replace BB := below_then BB hv2
            replace GG := (GG.later hv2).more hv2.size
            clear hv2
            refine wpPlanW_r ?_
            simp only [pick, List.filterMap_cons, List.filterMap_nil, List.getElem?_toArray, List.getElem?_cons_succ, List.getElem?_cons_zero]
            have s0 := Joins.cell_of_block t1 0
            have s1 := Joins.cell_of_block t1 1
            have s2 := Joins.cell_of_block t1 2
            have s3 := Joins.cell_of_block t1 3
            have s4 := Joins.cell_of_block t1 4
            have p0 := Joins.cell_of_block tp 0
            have p1 := Joins.cell_of_block tp 1
            have b0 := Joins.cell_of_block tb 0
            have b1 := Joins.cell_of_block tb 1
            have b2 := Joins.cell_of_block tb 2
            have b3 := Joins.cell_of_block tb 3
            have z1 := size_of_block t1
            have z2 := size_of_block tp
            have z3 := size_of_block tb
            have hcg : ∀ (g : Gr V2) b o, b < V2.heap.size → g.val.cell? ⟨b, o, none⟩ = V2.cell? ⟨b, o, none⟩ := fun g b o h => (bcell g.b).1 b o h
            refine WR.step (by kernel_rfl) (fun K hK => ?_); go_simp; refine hK _ ?_; clear hK K
            refine WR.step (by kernel_rfl) (fun K hK => ?_); go_simp; refine hK _ ?_; clear hK K
            refine WR.val (.bool false) (by kernel_rfl) (by intro g; kernel_rfl) ?_
            refine WR.step (by kernel_rfl) (fun K hK => ?_); go_simp; refine hK _ ?_; clear hK K
            refine WR.step (by kernel_rfl) (fun K hK => ?_); go_simp; refine hK _ ?_; clear hK K
            refine WR.val (.pointer (some ⟨w.heap.size + 1 + 1, 0, none⟩)) (by kernel_rfl) (by intro g; kernel_rfl) ?_
            refine WR.val (.pointer (some ⟨w.heap.size + 1 + 1, 0, none⟩)) (by kernel_rfl) (by intro g; kernel_rfl) ?_
            refine WR.step (by kernel_rfl) (fun K hK => ?_); go_simp; refine hK _ ?_; clear hK K
            refine WR.val (.pointer (some ⟨w.heap.size + 1 + 1, 2, none⟩)) (by kernel_rfl) (by intro g; kernel_rfl) ?_
            refine WR.step (by kernel_rfl) (fun K hK => ?_); go_simp; refine hK _ ?_; clear hK K
            refine WR.val (.agg #[.int .i64 b.lo, .int .i64 b.low]) (by kernel_rfl) (by intro g; kernel_rfl) ?_
            go_simp
            refine WR.nil fun V3 hb3 => ?_
            clear hcg s0 s1 s2 s3 s4 p0 p1 b0 b1 b2 b3 z1 z2 z3
            replace t1 := (hb3.block _ (size_of_block t1)).trans t1
            replace tp := (hb3.block _ (size_of_block tp)).trans tp
            replace tb := (hb3.block _ (size_of_block tb)).trans tb
            replace BB := below_then BB hb3
            replace GG := (GG.later hb3).more hb3.size
            clear hb3
            refine wpPlanW_call rfl (by kernel_rfl) fun K hK => ?_
            go_simp
            refine (lows_c f S (.func (.func gf) #[] lb) p V3 HS.out.slope HP.out HS.out.lookS GG).mono ?_
            rintro e X ⟨gl, ll, rfl, hgl, hx⟩
            refine hK _ _ hx fun V4 hu4 => ?_
            clear hK K
            have hv4 := below_then hx hu4
            replace hgl := (hgl.later hu4).more hu4.size
            clear hx hu4
            replace t1 := (hv4.block _ (size_of_block t1)).trans t1
            replace tp := (hv4.block _ (size_of_block tp)).trans tp
            replace tb := (hv4.block _ (size_of_block tb)).trans tb
            replace BB := below_then BB hv4
            replace GG := (GG.later hv4).more hv4.size
            clear hv4
            refine wpPlanW_call rfl (by kernel_rfl) fun K hK => ?_
            go_simp
            refine (holdsE_c _ b.lo b.low _ V4 hgl).mono ?_
            rintro e X ⟨rfl, hx⟩
            rw [hL]
            refine hK _ _ hx fun V5 hu5 => ?_
            clear hK K
            have hv5 := below_then hx hu5
            clear hx hu5
            replace t1 := (hv5.block _ (size_of_block t1)).trans t1
            replace tp := (hv5.block _ (size_of_block tp)).trans tp
            replace tb := (hv5.block _ (size_of_block tb)).trans tb
            replace BB := below_then BB hv5
            replace GG := (GG.later hv5).more hv5.size
            clear hv5
            clear hgl
            refine wpPlanW_r ?_
            simp only [pick, List.filterMap_cons, List.filterMap_nil, List.getElem?_toArray, List.getElem?_cons_succ, List.getElem?_cons_zero]
            have s0 := Joins.cell_of_block t1 0
            have s1 := Joins.cell_of_block t1 1
            have s2 := Joins.cell_of_block t1 2
            have s3 := Joins.cell_of_block t1 3
            have s4 := Joins.cell_of_block t1 4
            have p0 := Joins.cell_of_block tp 0
            have p1 := Joins.cell_of_block tp 1
            have b0 := Joins.cell_of_block tb 0
            have b1 := Joins.cell_of_block tb 1
            have b2 := Joins.cell_of_block tb 2
            have b3 := Joins.cell_of_block tb 3
            have z1 := size_of_block t1
            have z2 := size_of_block tp
            have z3 := size_of_block tb
            have hcg : ∀ (g : Gr V5) b o, b < V5.heap.size → g.val.cell? ⟨b, o, none⟩ = V5.cell? ⟨b, o, none⟩ := fun g b o h => (bcell g.b).1 b o h
            refine WR.val (.bool false) (by kernel_rfl) (by intro g; kernel_rfl) ?_
            refine WR.val (.bool false) (by kernel_rfl) (by intro g; kernel_rfl) ?_
            refine WR.val (.bool false) (by kernel_rfl) (by intro g; kernel_rfl) ?_
            refine WR.step (by kernel_rfl) (fun K hK => ?_); go_simp; refine hK _ ?_; clear hK K
            refine WR.step (by kernel_rfl) (fun K hK => ?_); go_simp; refine hK _ ?_; clear hK K
            refine WR.val (.pointer (some ⟨w.heap.size + 1 + 1, 0, none⟩)) (by kernel_rfl) (by intro g; kernel_rfl) ?_
            refine WR.val (.pointer (some ⟨w.heap.size + 1 + 1, 1, none⟩)) (by kernel_rfl) (by intro g; kernel_rfl) ?_
            refine WR.step (by kernel_rfl) (fun K hK => ?_); go_simp; refine hK _ ?_; clear hK K
            refine WR.val (.pointer (some ⟨w.heap.size + 1 + 1, 3, none⟩)) (by kernel_rfl) (by intro g; kernel_rfl) ?_
            refine WR.step (by kernel_rfl) (fun K hK => ?_); go_simp; refine hK _ ?_; clear hK K
            refine WR.val (.agg #[.int .i64 b.hi, .int .i64 b.high]) (by kernel_rfl) (by intro g; kernel_rfl) ?_
            go_simp
            refine WR.nil fun V6 hb6 => ?_
            clear hcg s0 s1 s2 s3 s4 p0 p1 b0 b1 b2 b3 z1 z2 z3
            replace t1 := (hb6.block _ (size_of_block t1)).trans t1
            replace tp := (hb6.block _ (size_of_block tp)).trans tp
            replace tb := (hb6.block _ (size_of_block tb)).trans tb
            replace BB := below_then BB hb6
            replace GG := (GG.later hb6).more hb6.size
            clear hb6
            refine wpPlanW_call rfl (by kernel_rfl) fun K hK => ?_
            go_simp
            refine (highs_c f S (.func (.func gf) #[] lb) p V6 HS.out.slope HP.out HS.out.lookS GG).mono ?_
            rintro e X ⟨gh, lh, rfl, hgh, hx⟩
            refine hK _ _ hx fun V7 hu7 => ?_
            clear hK K
            have hv7 := below_then hx hu7
            replace hgh := (hgh.later hu7).more hu7.size
            clear hx hu7
            replace t1 := (hv7.block _ (size_of_block t1)).trans t1
            replace tp := (hv7.block _ (size_of_block tp)).trans tp
            replace tb := (hv7.block _ (size_of_block tb)).trans tb
            replace BB := below_then BB hv7
            replace GG := (GG.later hv7).more hv7.size
            clear hv7
            refine wpPlanW_call rfl (by kernel_rfl) fun K hK => ?_
            go_simp
            refine (holdsE_c _ b.hi b.high _ V7 hgh).mono ?_
            rintro e X ⟨rfl, hx⟩
            rw [hH]
            refine hK _ _ hx fun V8 hu8 => ?_
            clear hK K
            have hv8 := below_then hx hu8
            clear hx hu8
            replace t1 := (hv8.block _ (size_of_block t1)).trans t1
            replace tp := (hv8.block _ (size_of_block tp)).trans tp
            replace tb := (hv8.block _ (size_of_block tb)).trans tb
            replace BB := below_then BB hv8
            replace GG := (GG.later hv8).more hv8.size
            clear hv8
            clear hgh
            refine wpPlanW_r ?_
            simp only [pick, List.filterMap_cons, List.filterMap_nil, List.getElem?_toArray, List.getElem?_cons_succ, List.getElem?_cons_zero]
            have s0 := Joins.cell_of_block t1 0
            have s1 := Joins.cell_of_block t1 1
            have s2 := Joins.cell_of_block t1 2
            have s3 := Joins.cell_of_block t1 3
            have s4 := Joins.cell_of_block t1 4
            have p0 := Joins.cell_of_block tp 0
            have p1 := Joins.cell_of_block tp 1
            have b0 := Joins.cell_of_block tb 0
            have b1 := Joins.cell_of_block tb 1
            have b2 := Joins.cell_of_block tb 2
            have b3 := Joins.cell_of_block tb 3
            have z1 := size_of_block t1
            have z2 := size_of_block tp
            have z3 := size_of_block tb
            have hcg : ∀ (g : Gr V8) b o, b < V8.heap.size → g.val.cell? ⟨b, o, none⟩ = V8.cell? ⟨b, o, none⟩ := fun g b o h => (bcell g.b).1 b o h
            refine WR.val (.bool true) (by kernel_rfl) (by intro g; kernel_rfl) ?_
            refine WR.val (.bool true) (by kernel_rfl) (by intro g; kernel_rfl) ?_
            go_simp
            refine WR.nil fun V9 hb9 => ?_
            clear hcg s0 s1 s2 s3 s4 p0 p1 b0 b1 b2 b3 z1 z2 z3
            replace t1 := (hb9.block _ (size_of_block t1)).trans t1
            replace tp := (hb9.block _ (size_of_block tp)).trans tp
            replace tb := (hb9.block _ (size_of_block tb)).trans tb
            replace BB := below_then BB hb9
            replace GG := (GG.later hb9).more hb9.size
            clear hb9
            refine wpPlanW_nil ?_
            show wpList _ _ _ _ _ _
            go_wp2_with fail
            refine bodyPost_ret (v := .int .i64 8) ?_ rfl ⟨by rw [HV.out], BB⟩
            simp [results, Tryz.results28, go_sem]
          | true =>
            rw [hsp] at hne
            simp only [Bool.not_true] at hne
            have HV : Hid (R = 0) := by show R = _; rw [hv0.out, HPR.out, hsp, hL, hH]; rfl
            clear hsp hv0 HPR HE
            go_wp2_with fail
            refine wp_region_planW [.f [0, 1, 2, 3], .s 4, .f [5, 6, 7, 8, 9, 11, 12, 13, 14, 15, 16], .s 10, .s 17, .f [18, 19, 20, 21, 22, 24, 25, 26, 27, 28, 29], .s 23, .s 30, .f [31, 32]] [] (by kernel_rfl) (by kernel_rfl) (by intro c a d v w h; cases d <;> exact h) ?_
            intro u hu0
            replace t1 := (hu0.block _ (size_of_block t1)).trans t1
            replace tp := (hu0.block _ (size_of_block tp)).trans tp
            replace tb := (hu0.block _ (size_of_block tb)).trans tb
            replace BB := below_then BB hu0
            replace GG := (GG.later hu0).more hu0.size
            clear hu0
            refine wpPlanW_r ?_
            simp only [pick, List.filterMap_cons, List.filterMap_nil, List.getElem?_toArray, List.getElem?_cons_succ, List.getElem?_cons_zero]
            have s0 := Joins.cell_of_block t1 0
            have s1 := Joins.cell_of_block t1 1
            have s2 := Joins.cell_of_block t1 2
            have s3 := Joins.cell_of_block t1 3
            have s4 := Joins.cell_of_block t1 4
            have p0 := Joins.cell_of_block tp 0
            have p1 := Joins.cell_of_block tp 1
            have b0 := Joins.cell_of_block tb 0
            have b1 := Joins.cell_of_block tb 1
            have b2 := Joins.cell_of_block tb 2
            have b3 := Joins.cell_of_block tb 3
            have z1 := size_of_block t1
            have z2 := size_of_block tp
            have z3 := size_of_block tb
            have hcg : ∀ (g : Gr u) b o, b < u.heap.size → g.val.cell? ⟨b, o, none⟩ = u.cell? ⟨b, o, none⟩ := fun g b o h => (bcell g.b).1 b o h
            refine WR.step (by kernel_rfl) (fun K hK => ?_); go_simp; refine hK _ ?_; clear hK K
            refine WR.step (by kernel_rfl) (fun K hK => ?_); go_simp; refine hK _ ?_; clear hK K
            refine WR.step (by kernel_rfl) (fun K hK => ?_); go_simp; refine hK _ ?_; clear hK K
            refine WR.step (by kernel_rfl) (fun K hK => ?_); go_simp; refine hK _ ?_; clear hK K
            go_simp
            refine WR.nil fun V1 hb1 => ?_
            clear hcg s0 s1 s2 s3 s4 p0 p1 b0 b1 b2 b3 z1 z2 z3
            replace t1 := (hb1.block _ (size_of_block t1)).trans t1
            replace tp := (hb1.block _ (size_of_block tp)).trans tp
            replace tb := (hb1.block _ (size_of_block tb)).trans tb
            replace BB := below_then BB hb1
            replace GG := (GG.later hb1).more hb1.size
            clear hb1
            refine wpPlanW_call rfl (by kernel_rfl) fun K hK => ?_
            go_simp
            refine (HBD.out V1 GG).mono ?_
            rintro e X ⟨rfl, hx⟩
            refine hK _ _ hx fun V2 hu2 => ?_
            clear hK K
            have hv2 := below_then hx hu2
            clear hx hu2
            replace t1 := (hv2.block _ (size_of_block t1)).trans t1
            replace tp := (hv2.block _ (size_of_block tp)).trans tp
            replace tb := (hv2.block _ (size_of_block tb)).trans tb
            replace BB := below_then BB hv2
            replace GG := (GG.later hv2).more hv2.size
            clear hv2
            refine wpPlanW_r ?_
            simp only [pick, List.filterMap_cons, List.filterMap_nil, List.getElem?_toArray, List.getElem?_cons_succ, List.getElem?_cons_zero]
            have s0 := Joins.cell_of_block t1 0
            have s1 := Joins.cell_of_block t1 1
            have s2 := Joins.cell_of_block t1 2
            have s3 := Joins.cell_of_block t1 3
            have s4 := Joins.cell_of_block t1 4
            have p0 := Joins.cell_of_block tp 0
            have p1 := Joins.cell_of_block tp 1
            have b0 := Joins.cell_of_block tb 0
            have b1 := Joins.cell_of_block tb 1
            have b2 := Joins.cell_of_block tb 2
            have b3 := Joins.cell_of_block tb 3
            have z1 := size_of_block t1
            have z2 := size_of_block tp
            have z3 := size_of_block tb
            have hcg : ∀ (g : Gr V2) b o, b < V2.heap.size → g.val.cell? ⟨b, o, none⟩ = V2.cell? ⟨b, o, none⟩ := fun g b o h => (bcell g.b).1 b o h
            refine WR.step (by kernel_rfl) (fun K hK => ?_); go_simp; refine hK _ ?_; clear hK K
            refine WR.step (by kernel_rfl) (fun K hK => ?_); go_simp; refine hK _ ?_; clear hK K
            refine WR.val (.bool false) (by kernel_rfl) (by intro g; kernel_rfl) ?_
            refine WR.step (by kernel_rfl) (fun K hK => ?_); go_simp; refine hK _ ?_; clear hK K
            refine WR.step (by kernel_rfl) (fun K hK => ?_); go_simp; refine hK _ ?_; clear hK K
            refine WR.val (.pointer (some ⟨w.heap.size + 1 + 1, 0, none⟩)) (by kernel_rfl) (by intro g; kernel_rfl) ?_
            refine WR.val (.pointer (some ⟨w.heap.size + 1 + 1, 0, none⟩)) (by kernel_rfl) (by intro g; kernel_rfl) ?_
            refine WR.step (by kernel_rfl) (fun K hK => ?_); go_simp; refine hK _ ?_; clear hK K
            refine WR.val (.pointer (some ⟨w.heap.size + 1 + 1, 2, none⟩)) (by kernel_rfl) (by intro g; kernel_rfl) ?_
            refine WR.step (by kernel_rfl) (fun K hK => ?_); go_simp; refine hK _ ?_; clear hK K
            refine WR.val (.agg #[.int .i64 b.lo, .int .i64 b.low]) (by kernel_rfl) (by intro g; kernel_rfl) ?_
            go_simp
            refine WR.nil fun V3 hb3 => ?_
            clear hcg s0 s1 s2 s3 s4 p0 p1 b0 b1 b2 b3 z1 z2 z3
            replace t1 := (hb3.block _ (size_of_block t1)).trans t1
            replace tp := (hb3.block _ (size_of_block tp)).trans tp
            replace tb := (hb3.block _ (size_of_block tb)).trans tb
            replace BB := below_then BB hb3
            replace GG := (GG.later hb3).more hb3.size
            clear hb3
            refine wpPlanW_call rfl (by kernel_rfl) fun K hK => ?_
            go_simp
            refine (lows_c f S (.func (.func gf) #[] lb) p V3 HS.out.slope HP.out HS.out.lookS GG).mono ?_
            rintro e X ⟨gl, ll, rfl, hgl, hx⟩
            refine hK _ _ hx fun V4 hu4 => ?_
            clear hK K
            have hv4 := below_then hx hu4
            replace hgl := (hgl.later hu4).more hu4.size
            clear hx hu4
            replace t1 := (hv4.block _ (size_of_block t1)).trans t1
            replace tp := (hv4.block _ (size_of_block tp)).trans tp
            replace tb := (hv4.block _ (size_of_block tb)).trans tb
            replace BB := below_then BB hv4
            replace GG := (GG.later hv4).more hv4.size
            clear hv4
            refine wpPlanW_call rfl (by kernel_rfl) fun K hK => ?_
            go_simp
            refine (holdsE_c _ b.lo b.low _ V4 hgl).mono ?_
            rintro e X ⟨rfl, hx⟩
            rw [hL]
            refine hK _ _ hx fun V5 hu5 => ?_
            clear hK K
            have hv5 := below_then hx hu5
            clear hx hu5
            replace t1 := (hv5.block _ (size_of_block t1)).trans t1
            replace tp := (hv5.block _ (size_of_block tp)).trans tp
            replace tb := (hv5.block _ (size_of_block tb)).trans tb
            replace BB := below_then BB hv5
            replace GG := (GG.later hv5).more hv5.size
            clear hv5
            clear hgl
            refine wpPlanW_r ?_
            simp only [pick, List.filterMap_cons, List.filterMap_nil, List.getElem?_toArray, List.getElem?_cons_succ, List.getElem?_cons_zero]
            have s0 := Joins.cell_of_block t1 0
            have s1 := Joins.cell_of_block t1 1
            have s2 := Joins.cell_of_block t1 2
            have s3 := Joins.cell_of_block t1 3
            have s4 := Joins.cell_of_block t1 4
            have p0 := Joins.cell_of_block tp 0
            have p1 := Joins.cell_of_block tp 1
            have b0 := Joins.cell_of_block tb 0
            have b1 := Joins.cell_of_block tb 1
            have b2 := Joins.cell_of_block tb 2
            have b3 := Joins.cell_of_block tb 3
            have z1 := size_of_block t1
            have z2 := size_of_block tp
            have z3 := size_of_block tb
            have hcg : ∀ (g : Gr V5) b o, b < V5.heap.size → g.val.cell? ⟨b, o, none⟩ = V5.cell? ⟨b, o, none⟩ := fun g b o h => (bcell g.b).1 b o h
            refine WR.val (.bool false) (by kernel_rfl) (by intro g; kernel_rfl) ?_
            refine WR.val (.bool false) (by kernel_rfl) (by intro g; kernel_rfl) ?_
            refine WR.val (.bool false) (by kernel_rfl) (by intro g; kernel_rfl) ?_
            refine WR.step (by kernel_rfl) (fun K hK => ?_); go_simp; refine hK _ ?_; clear hK K
            refine WR.step (by kernel_rfl) (fun K hK => ?_); go_simp; refine hK _ ?_; clear hK K
            refine WR.val (.pointer (some ⟨w.heap.size + 1 + 1, 0, none⟩)) (by kernel_rfl) (by intro g; kernel_rfl) ?_
            refine WR.val (.pointer (some ⟨w.heap.size + 1 + 1, 1, none⟩)) (by kernel_rfl) (by intro g; kernel_rfl) ?_
            refine WR.step (by kernel_rfl) (fun K hK => ?_); go_simp; refine hK _ ?_; clear hK K
            refine WR.val (.pointer (some ⟨w.heap.size + 1 + 1, 3, none⟩)) (by kernel_rfl) (by intro g; kernel_rfl) ?_
            refine WR.step (by kernel_rfl) (fun K hK => ?_); go_simp; refine hK _ ?_; clear hK K
            refine WR.val (.agg #[.int .i64 b.hi, .int .i64 b.high]) (by kernel_rfl) (by intro g; kernel_rfl) ?_
            go_simp
            refine WR.nil fun V6 hb6 => ?_
            clear hcg s0 s1 s2 s3 s4 p0 p1 b0 b1 b2 b3 z1 z2 z3
            replace t1 := (hb6.block _ (size_of_block t1)).trans t1
            replace tp := (hb6.block _ (size_of_block tp)).trans tp
            replace tb := (hb6.block _ (size_of_block tb)).trans tb
            replace BB := below_then BB hb6
            replace GG := (GG.later hb6).more hb6.size
            clear hb6
            refine wpPlanW_call rfl (by kernel_rfl) fun K hK => ?_
            go_simp
            refine (highs_c f S (.func (.func gf) #[] lb) p V6 HS.out.slope HP.out HS.out.lookS GG).mono ?_
            rintro e X ⟨gh, lh, rfl, hgh, hx⟩
            refine hK _ _ hx fun V7 hu7 => ?_
            clear hK K
            have hv7 := below_then hx hu7
            replace hgh := (hgh.later hu7).more hu7.size
            clear hx hu7
            replace t1 := (hv7.block _ (size_of_block t1)).trans t1
            replace tp := (hv7.block _ (size_of_block tp)).trans tp
            replace tb := (hv7.block _ (size_of_block tb)).trans tb
            replace BB := below_then BB hv7
            replace GG := (GG.later hv7).more hv7.size
            clear hv7
            refine wpPlanW_call rfl (by kernel_rfl) fun K hK => ?_
            go_simp
            refine (holdsE_c _ b.hi b.high _ V7 hgh).mono ?_
            rintro e X ⟨rfl, hx⟩
            rw [hH]
            refine hK _ _ hx fun V8 hu8 => ?_
            clear hK K
            have hv8 := below_then hx hu8
            clear hx hu8
            replace t1 := (hv8.block _ (size_of_block t1)).trans t1
            replace tp := (hv8.block _ (size_of_block tp)).trans tp
            replace tb := (hv8.block _ (size_of_block tb)).trans tb
            replace BB := below_then BB hv8
            replace GG := (GG.later hv8).more hv8.size
            clear hv8
            clear hgh
            refine wpPlanW_r ?_
            simp only [pick, List.filterMap_cons, List.filterMap_nil, List.getElem?_toArray, List.getElem?_cons_succ, List.getElem?_cons_zero]
            have s0 := Joins.cell_of_block t1 0
            have s1 := Joins.cell_of_block t1 1
            have s2 := Joins.cell_of_block t1 2
            have s3 := Joins.cell_of_block t1 3
            have s4 := Joins.cell_of_block t1 4
            have p0 := Joins.cell_of_block tp 0
            have p1 := Joins.cell_of_block tp 1
            have b0 := Joins.cell_of_block tb 0
            have b1 := Joins.cell_of_block tb 1
            have b2 := Joins.cell_of_block tb 2
            have b3 := Joins.cell_of_block tb 3
            have z1 := size_of_block t1
            have z2 := size_of_block tp
            have z3 := size_of_block tb
            have hcg : ∀ (g : Gr V8) b o, b < V8.heap.size → g.val.cell? ⟨b, o, none⟩ = V8.cell? ⟨b, o, none⟩ := fun g b o h => (bcell g.b).1 b o h
            refine WR.val (.bool false) (by kernel_rfl) (by intro g; kernel_rfl) ?_
            refine WR.val (.bool false) (by kernel_rfl) (by intro g; kernel_rfl) ?_
            go_simp
            refine WR.nil fun V9 hb9 => ?_
            clear hcg s0 s1 s2 s3 s4 p0 p1 b0 b1 b2 b3 z1 z2 z3
            replace t1 := (hb9.block _ (size_of_block t1)).trans t1
            replace tp := (hb9.block _ (size_of_block tp)).trans tp
            replace tb := (hb9.block _ (size_of_block tb)).trans tb
            replace BB := below_then BB hb9
            replace GG := (GG.later hb9).more hb9.size
            clear hb9
            refine wpPlanW_nil ?_
            show wpList _ _ _ _ _ _
            go_wp2_with fail
            refine bodyPost_ret (v := .int .i64 0) ?_ rfl ⟨by rw [HV.out], BB⟩
            simp [results, Tryz.results28, go_sem]
    · have d1 : (ke != 0) = true := by simpa using h0
      have HV : Hid (R = ke) := by show R = _; rw [HR.out]; unfold chkEndsI; rw [HE.out, if_pos h0]
      clear h0 HZ HN HROW K11 hpe hke h5 h1c
      go_wp2_with fail
      refine bodyPost_ret (v := .int .i64 ke) ?_ rfl ⟨by rw [HV.out], B11⟩
      simp [results, Tryz.results28, go_sem]
end Go.Proofs.YtjpoacffnpgjdaaGreat
