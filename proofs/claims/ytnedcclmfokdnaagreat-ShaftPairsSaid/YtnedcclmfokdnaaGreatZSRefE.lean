/- What Run and Weight come to, in the reference's order (no program). -/
import Derived.Test.YtnedcclmfokdnaaGreatJ25
import Derived.Test.YtnedcclmfokdnaaGreatJ8
import Derived.Test.YtnedcclmfokdnaaGreatJ27
import Derived.Test.YtnedcclmfokdnaaGreatJ18
import Derived.Test.YtnedcclmfokdnaaGreatZSHgtE
import Derived.Test.YtnedcclmfokdnaaGreatZRefBE
import Derived.Test.YtnedcclmfokdnaaGreatZSTabE
namespace Go.Proofs.YtnedcclmfokdnaaGreat
open Go Go.RowKit Go.Shelf

theorem load_only {k : Kl} (hR : Right k) {id : Int} (h : 0 ≤ place k.ls id) : place k.ds id = -1 := by
  rcases place_cases k.ls id with ⟨h1, _⟩ | ⟨i, x, h1, hx, hid, _⟩
  · omega
  · refine place_none fun j y hy e => hR.parts.2.2.2 x (List.mem_of_getElem? hx) y (List.mem_of_getElem? hy) (by rw [hid, e])
theorem runI_miss {rs : List Rec} {bs f t : Int} (h : place rs f < 0 ∨ place rs t < 0) : runI rs bs f t = ((0, 0), 5) := by unfold runI; rw [if_pos h]
theorem runI_back {rs : List Rec} {bs f t : Int} (h1 : ¬ (place rs f < 0 ∨ place rs t < 0)) (h : place rs t < place rs f) : runI rs bs f t = ((0, 0), 1) := by unfold runI; rw [if_neg h1, if_pos h]
theorem runI_ok {rs : List Rec} {bs f t : Int} (h1 : ¬ (place rs f < 0 ∨ place rs t < 0)) (h : ¬ place rs t < place rs f) : runI rs bs f t = ((markB bs (place rs f), markB bs (place rs t + 1)), 0) := by unfold runI; rw [if_neg h1, if_neg h]
theorem run_ref {k : Kl} (hc : checkI k = 0) (f t : Int) : runE k f t = if (place k.ls f < 0 ∨ place k.ls t < 0) ∧ (place k.ds f < 0 ∨ place k.ds t < 0) then ((0, 0), 5) else if place k.ls t < place k.ls f ∨ place k.ds t < place k.ds f then ((0, 0), 1) else
    if 0 ≤ place k.ls f then betw k (place k.ls f) (place k.ls t + 1) else betw k (markI k (place k.ds f)) (markI k (place k.ds t + 1)) := by
  have hR := right_of_check hc
  have r1 := place_range k.ls f
  have r2 := place_range k.ls t
  have r3 := place_range k.ds f
  have r4 := place_range k.ds t
  have kf := fun h => load_only hR (id := f) h
  have kt := fun h => load_only hR (id := t) h
  by_cases h1 : place k.ls f < 0 ∨ place k.ls t < 0
  · by_cases h2 : place k.ds f < 0 ∨ place k.ds t < 0
    · have e : runM k f t = ((0, 0), 5) := by unfold runM; rw [runI_miss h1, runI_miss h2]; rfl
      rw [if_pos ⟨h1, h2⟩]
      unfold runE; rw [if_neg (by simp [hc]), e]; rfl
    · rw [if_neg (fun h => h2 h.2)]
      have e1 : ¬ 0 ≤ place k.ls f := fun hn => by have := kf hn; omega
      have e2 : ¬ 0 ≤ place k.ls t := fun hn => by have := kt hn; omega
      by_cases h3 : place k.ds t < place k.ds f
      · have e : runM k f t = ((0, 0), 1) := by unfold runM; rw [runI_miss h1, runI_back h2 h3]; rfl
        rw [if_pos (Or.inr h3)]
        unfold runE; rw [if_neg (by simp [hc]), e]; rfl
      · have e : runM k f t = ((markB k.ls.length (place k.ds f), markB k.ls.length (place k.ds t + 1)), 0) := by unfold runM; rw [runI_miss h1, runI_ok h2 h3]; rfl
        rw [if_neg (by omega), if_neg e1]
        unfold runE; rw [if_neg (by simp [hc]), e]; rfl
  · rw [if_neg (fun h => h1 h.1)]
    have k1 := kf (by omega)
    have k2 := kt (by omega)
    by_cases h3 : place k.ls t < place k.ls f
    · have e : runM k f t = ((0, 0), 1) := by unfold runM; rw [runI_back h1 h3]; rfl
      rw [if_pos (Or.inl h3)]
      unfold runE; rw [if_neg (by simp [hc]), e]; rfl
    · have e : runM k f t = ((markB 0 (place k.ls f), markB 0 (place k.ls t + 1)), 0) := by unfold runM; rw [runI_ok h1 h3]; rfl
      rw [if_neg (by omega), if_pos (by omega)]
      unfold runE; rw [if_neg (by simp [hc]), e]
      show betw k (markB 0 (place k.ls f)) (markB 0 (place k.ls t + 1)) = _
      rw [markB_zero, markB_zero]
theorem weight_ref {k : Kl} (hc : checkI k = 0) (id : Int) : weightE k id = if 0 ≤ place k.ls id then betw k (place k.ls id) (place k.ls id + 1) else if 0 ≤ place k.ds id then betw k (markI k (place k.ds id)) (markI k (place k.ds id + 1)) else ((0, 0), 5) := by
  unfold weightE
  rw [run_ref hc]
  have r1 := place_range k.ls id
  have r3 := place_range k.ds id
  by_cases h1 : 0 ≤ place k.ls id
  · rw [if_neg (by omega), if_neg (by omega), if_pos h1, if_pos h1]
  · rw [if_neg h1]
    by_cases h2 : 0 ≤ place k.ds id
    · rw [if_neg (by omega), if_neg (by omega), if_neg h1, if_pos h2]
    · rw [if_pos (by omega), if_neg h1, if_neg h2]
end Go.Proofs.YtnedcclmfokdnaaGreat

/- The ends of the reference: between, Weight, Run, Held, Below, Feet (written by tools/gensrefe.py). -/
namespace Go.Proofs.YtnedcclmfokdnaaGreat
open Go Go.RowKit Go.Shelf
attribute [local go_sem] Oper.semAt_some Rel RelAt RelUpon

theorem rtable_d (k : Kl) (u : Value) (w : World) (hR : Right k) (hT : TiesAt w w.heap.size u (tiesL k)) :
    Calls Tryz.prog 93 #[.int .i64 ((k.ls.length : Int) + k.ds.length + 1), u] w fun e w' => ∃ (g cap : Nat) (bs cp : Nat → Nat) (D : Int → Int → Int), e = .returned (.tuple #[.slice (some ⟨g, 0, none⟩) (mN k) cap, .bool (canB (tiesL k))]) ∧ ((∀ x y : Nat, x < mN k → y < mN k → w'.cell? ⟨g, x, none⟩ = some (.slice (some ⟨bs x, 0, none⟩) (mN k) (cp x)) ∧ w'.cell? ⟨bs x, y, none⟩ = some (.int .i64 (D (x : Int) (y : Int))) ∧ bs x < w'.heap.size) ∧ g < w'.heap.size ∧
      (canB (tiesL k) = true → ∀ x y : Nat, x < mN k → y < mN k → D (x : Int) (y : Int) = dst (tiesL k) x y)) ∧ Below w.heap.size w w' := by
  have hmn := mN_eq k
  have hok : NetOk (tiesL k) (mN k : Nat) := by rw [← hmn]; exact net_ok hR
  have h := table_r (tiesL k) u (mN k) w hT hok
  rw [show ((k.ls.length : Int) + k.ds.length + 1) = ((mN k : Nat) : Int) by unfold mN; omega]
  refine h.mono ?_
  rintro e w' ⟨v, bs, cp, D, b, rfl, hD, hTO, hb, hB⟩
  have hn0 : 0 < mN k := by unfold mN; omega
  have hown := hD.own
  obtain ⟨A, cap, rfl⟩ := own_form hown
  rcases hown.2 with ⟨_, h0⟩ | ⟨g, c, cur, he, hg, hh, _⟩
  · omega
  · obtain ⟨rfl, rfl⟩ : A = some ⟨g, 0, none⟩ ∧ cap = c := by simpa using he
    have hre : ∀ x : Nat, x < mN k → Reaches (tiesL k) (mN k : Nat) (x : Int) := fun x hx => by rw [← hmn]; exact net_reaches k (by omega) (by rw [hmn]; omega)
    have hc : b = canB (tiesL k) := by
      have hk := circle_or hok hTO (hre 0 hn0)
      rw [Bool.eq_iff_iff, hb, canB_true, hk]
    subst hc
    refine ⟨g, cap, bs, cp, D, rfl, ⟨fun x y hx hy => ⟨hD.at_ hx, hD.cell hx hy, (hD.lt hx).2⟩, (hown.lt g rfl).2, fun hcan x y hx hy => tab_dst hok hTO (canB_true.1 hcan) ⟨by omega, by omega⟩ ⟨by omega, by omega⟩ (hre x hx)⟩, hB⟩
set_option maxRecDepth 100000 in
set_option maxHeartbeats 4000000 in
theorem rbetween_c (k : Kl) (v : Value) (x y : Nat) (w : World) (hk : Kiln w v k) (hR : Right k) (hx : x < mN k) (hy : y < mN k) :
    Calls Tryz.prog 100 #[v, .int .i64 x, .int .i64 y] w fun e w' => e = .returned (.agg #[.int .i64 (betw k x y).1.1, .int .i64 (betw k x y).1.2, .int .i64 (betw k x y).2]) ∧ Below w.heap.size w w' := by
  obtain ⟨A1, c1, A2, c2, A3, c3, rfl⟩ := kilnForm hk
  have HK := Lib.hid hk
  clear hk
  go_enter Tryz.func100, Tryz.ntmps100
  obtain ⟨bk, br, -, HB⟩ := two_new' w (.cells #[.int .i64 k.room, .int .i64 k.per, .slice A1 k.ls.length c1, .slice A2 k.ds.length c2, .slice A3 k.ws.length c3] 26) (.cells #[.int .i64 0, .int .i64 0, .int .i64 0] 67)
  have cbk0 := Joins.cell_of_block bk 0
  have cbk1 := Joins.cell_of_block bk 1
  have cbk2 := Joins.cell_of_block bk 2
  have cbk3 := Joins.cell_of_block bk 3
  have cbk4 := Joins.cell_of_block bk 4
  have zbk := size_of_block bk
  go_wp2_with fail
  generalize ((w.alloc (.cells #[.int .i64 k.room, .int .i64 k.per, .slice A1 k.ls.length c1, .slice A2 k.ds.length c2, .slice A3 k.ws.length c3] 26)).alloc (.cells #[.int .i64 0, .int .i64 0, .int .i64 0] 67)) = w1 at bk br HB cbk0 cbk1 cbk2 cbk3 cbk4 zbk ⊢
  have hB := HB
  clear HB
  clear cbk0 cbk1 cbk2 cbk3 cbk4 zbk
  refine wp_region_looseM [] [0, 2] (.one 1 (.one 3 (.one 4 .done))) [] [5, 6, 7] [8, 9] [] [] (by kernel_rfl) (by kernel_rfl) (by intro c a d v w h; cases d <;> exact h) (by intro c a d v w h; cases d <;> exact h) rfl (fun r i h => by simp at h) ?_
  simp only [pick, List.filterMap_cons, List.filterMap_nil, List.getElem?_toArray, List.getElem?_cons_succ, List.getElem?_cons_zero]
  intro u2 hu2
  replace bk := (hu2.block _ (size_of_block bk)).trans bk
  replace br := (hu2.block _ (size_of_block br)).trans br
  replace hB := below_then hB hu2
  have cbk0 := Joins.cell_of_block bk 0
  have cbk1 := Joins.cell_of_block bk 1
  have cbk2 := Joins.cell_of_block bk 2
  have cbk3 := Joins.cell_of_block bk 3
  have cbk4 := Joins.cell_of_block bk 4
  have zbk := size_of_block bk
  have hcg : ∀ (g : Gr u2) b o, b < u2.heap.size → g.val.cell? ⟨b, o, none⟩ = u2.cell? ⟨b, o, none⟩ := fun g b o h => (bcell g.b).1 b o h
  iterate 2 (first | (refine wpRel_step (fun K hK => ?_); go_simp; refine hK _ ?_; clear hK K))
  refine wpRel_nil fun V2_0 hb2 => ?_
  clear hcg cbk0 cbk1 cbk2 cbk3 cbk4 zbk
  replace bk := (hb2.block _ (size_of_block bk)).trans bk
  replace br := (hb2.block _ (size_of_block br)).trans br
  replace hB := below_then hB hb2
  clear hb2 hu2
  refine wpTr_step rfl rfl fun K hK => ?_
  go_simp
  refine (marks_c k _ V2_0 (HK.out.later hB)).mono ?_
  rintro e X ⟨rfl, hxx⟩
  refine hK _ _ hxx fun V2_1 hu => ?_
  clear hK K
  have hxu := below_then hxx hu
  replace bk := (hxu.block _ (size_of_block bk)).trans bk
  replace br := (hxu.block _ (size_of_block br)).trans br
  replace hB := below_then hB hxu
  clear hxx hu hxu
  refine wpTr_step rfl rfl fun K hK => ?_
  go_simp
  refine (rties_c k _ V2_1 (HK.out.later hB) hR.small).mono ?_
  rintro e X ⟨u, rfl, hTT, hxx⟩
  refine hK _ _ hxx fun V2_2 hu => ?_
  clear hK K
  replace hTT := own_later hTT hu
  have hxu := below_then hxx hu
  replace bk := (hxu.block _ (size_of_block bk)).trans bk
  replace br := (hxu.block _ (size_of_block br)).trans br
  replace hB := below_then hB hxu
  clear hxx hu hxu
  refine wpTr_step rfl rfl fun K hK => ?_
  go_simp
  refine (rtable_d k u V2_2 hR (OwnTies.at_ hTT (by have := tiesL_len hR.small; omega))).mono ?_
  rintro e X ⟨g, cap, bs, cp, D, rfl, ⟨hc1, hc2, hc3⟩, hxx⟩
  refine hK _ _ hxx fun V2_3 hu => ?_
  clear hK K
  obtain ⟨p1, p2, p3⟩ := hc1 x y hx hy
  obtain ⟨r1, r2, r3⟩ := hc1 y x hy hx
  have e1 := fun h => hc3 h x y hx hy
  have e2 := fun h => hc3 h y x hy hx
  replace p1 := (hu.cell (p := ⟨g, x, none⟩) hc2).trans p1
  replace p2 := (hu.cell (p := ⟨bs x, y, none⟩) p3).trans p2
  replace r1 := (hu.cell (p := ⟨g, y, none⟩) hc2).trans r1
  replace r2 := (hu.cell (p := ⟨bs y, x, none⟩) r3).trans r2
  have z1 := Nat.lt_of_lt_of_le hc2 hu.size
  have z2 := Nat.lt_of_lt_of_le p3 hu.size
  have z3 := Nat.lt_of_lt_of_le r3 hu.size
  clear hc1 hc2 hc3 p3 r3
  have hxu := below_then hxx hu
  replace bk := (hxu.block _ (size_of_block bk)).trans bk
  replace br := (hxu.block _ (size_of_block br)).trans br
  replace hTT := own_later hTT hxu
  replace hB := below_then hB hxu
  clear hxx hu hxu
  show wpPure _ _ _ _
  refine wpPure_step (.tuple #[.slice (some ⟨g, 0, none⟩) (mN k) cap, .bool (canB (tiesL k))]) rfl (fun u => by first | rfl | simp [execOp, go_sem]) ?_
  refine wpPure_step (.slice (some ⟨g, 0, none⟩) (mN k) cap) rfl (fun u => by first | rfl | simp [execOp, go_sem]) ?_
  refine wpPure_step (.bool (canB (tiesL k))) rfl (fun u => by first | rfl | simp [execOp, go_sem]) ?_
  intro ks hks _ _
  obtain rfl : ks = [] := List.length_eq_zero_iff.1 hks
  clear hks
  show wpList _ _ _ _ _ _
  simp only [deco]
  obtain ⟨d1, hd1⟩ : ∃ d, d = D (x : Int) (y : Int) := ⟨_, rfl⟩
  obtain ⟨d2, hd2⟩ : ∃ d, d = D (y : Int) (x : Int) := ⟨_, rfl⟩
  rw [← hd1] at p2 e1
  rw [← hd2] at r2 e2
  clear hd1 hd2
  by_cases hcan : canB (tiesL k) = true
  · have HE := Lib.hid (show betw k x y = ((-(dst (tiesL k) y x), dst (tiesL k) x y), 0) by unfold betw; rw [if_pos hcan])
    replace e1 := e1 hcan
    replace e2 := e2 hcan
    have hca := canB_true.1 hcan
    have hmn := mN_eq k
    have rg := dst_rng (net_ok hR) hca (net_reaches k (frm := (x : Int)) (by omega) (by omega) (y : Int) (by omega) (by omega)) (net_reaches k (frm := (y : Int)) (by omega) (by omega) (x : Int) (by omega) (by omega))
    have rg2 := dst_rng (net_ok hR) hca (net_reaches k (frm := (y : Int)) (by omega) (by omega) (x : Int) (by omega) (by omega)) (net_reaches k (frm := (x : Int)) (by omega) (by omega) (y : Int) (by omega) (by omega))
    rw [← e1] at HE rg
    rw [← e2] at HE rg2
    rw [hcan]
    have hxl : (x : Int) < (mN k : Nat) := by omega
    have hyl : (y : Int) < (mN k : Nat) := by omega
    clear e1 e2 hcan hca hmn
    go_wp2_with fail
    refine wp_region_looseM [0, 1, 4, 8, 9, 12] [2, 3, 5, 6, 7, 10, 11, 13, 14, 15, 16] .done [] [] [17] [] [] (by kernel_rfl) (by kernel_rfl) (by intro c a d v w h; cases d <;> exact h) (by intro c a d v w h; cases d <;> exact h) rfl (fun r i h => by simp at h) ?_
    simp only [pick, List.filterMap_cons, List.filterMap_nil, List.getElem?_toArray, List.getElem?_cons_succ, List.getElem?_cons_zero]
    refine wpPure_step (.slice (some ⟨g, 0, none⟩) (mN k) cap) rfl (fun u => by first | rfl | kernel_rfl | simp [execOp, go_sem]) ?_
    refine wpPure_step (.int .i64 y) rfl (fun u => by first | rfl | kernel_rfl | simp [execOp, go_sem]) ?_
    refine wpPure_step (.int .i64 x) rfl (fun u => by first | rfl | kernel_rfl | simp [execOp, go_sem]) ?_
    refine wpPure_step (.slice (some ⟨g, 0, none⟩) (mN k) cap) rfl (fun u => by first | rfl | kernel_rfl | simp [execOp, go_sem]) ?_
    refine wpPure_step (.int .i64 x) rfl (fun u => by first | rfl | kernel_rfl | simp [execOp, go_sem]) ?_
    refine wpPure_step (.int .i64 y) rfl (fun u => by first | rfl | kernel_rfl | simp [execOp, go_sem]) ?_
    intro U hU
    replace p1 := (hU.cell (p := ⟨g, x, none⟩) z1).trans p1
    replace p2 := (hU.cell (p := ⟨bs x, y, none⟩) z2).trans p2
    replace r1 := (hU.cell (p := ⟨g, y, none⟩) z1).trans r1
    replace r2 := (hU.cell (p := ⟨bs y, x, none⟩) z3).trans r2
    replace z1 := Nat.lt_of_lt_of_le z1 hU.size
    replace z2 := Nat.lt_of_lt_of_le z2 hU.size
    replace z3 := Nat.lt_of_lt_of_le z3 hU.size
    replace bk := (hU.block _ (size_of_block bk)).trans bk
    replace br := (hU.block _ (size_of_block br)).trans br
    replace hTT := own_later hTT hU
    replace hB := below_then hB hU
    have hcg : ∀ (g : Gr U) b o, b < U.heap.size → g.val.cell? ⟨b, o, none⟩ = U.cell? ⟨b, o, none⟩ := fun g b o h => (bcell g.b).1 b o h
    iterate 11 (first | (refine wpRel_step (fun K hK => ?_); go_simp; refine hK _ ?_; clear hK K))
    refine wpRel_nil fun V hV => ?_
    clear hcg p1 p2 r1 r2 z1 z2 z3
    replace bk := (hV.block _ (size_of_block bk)).trans bk
    replace br := (hV.block _ (size_of_block br)).trans br
    replace hTT := own_later hTT hV
    replace hB := below_then hB hV
    clear hV hU
    show wpPure _ _ _ _
    intro ks hks _ _
    obtain rfl : ks = [] := List.length_eq_zero_iff.1 hks
    clear hks
    show wpList _ _ _ _ _ _
    simp only [deco]
    have HPP := Lib.hid (fun j : Nat => cell_setRow_same V (w.heap.size + 1) j _ #[.int .i64 (-d2), .int .i64 d1, .int .i64 0] _ _ br)
    have HBF := Lib.hid (below_setRow hB (show w.heap.size ≤ w.heap.size + 1 by omega) #[.int .i64 (-d2), .int .i64 d1, .int .i64 0])
    skip
    rw [show IntKind.i64.wrap (-d2) = -d2 by rw [IntKind.wrap_i64]; omega]
    refine wpList_store_rowTo rfl 67 _ _ rfl rfl (w.heap.size + 1) #[.int .i64 (-d2), .int .i64 d1, .int .i64 0] rfl rfl 67 _ br (by kernel_rfl) rfl (by kernel_rfl) ?_
    go_wp2_with fail
    refine bodyPost_ret (v := .agg #[.int .i64 (-d2), .int .i64 d1, .int .i64 0]) ?_ rfl ⟨by rw [HE.out], HBF.out⟩
    simp [results, Tryz.results100, go_sem, HPP.out]
  · have HE := Lib.hid (show betw k x y = ((0, 0), 9) by unfold betw; rw [if_neg hcan])
    have hcf : canB (tiesL k) = false := by simpa using hcan
    rw [hcf]
    clear e1 e2 hcan hcf p1 p2 r1 r2 z1 z2 z3
    have HPP := Lib.hid (fun j : Nat => cell_setRow_same V2_3 (w.heap.size + 1) j _ #[.int .i64 0, .int .i64 0, .int .i64 9] _ _ br)
    have HBF := Lib.hid (below_setRow hB (show w.heap.size ≤ w.heap.size + 1 by omega) #[.int .i64 0, .int .i64 0, .int .i64 9])
    skip
    go_wp2_with (first | (refine wpList_store_rowTo rfl 67 _ _ rfl rfl (w.heap.size + 1) #[.int .i64 0, .int .i64 0, .int .i64 9] rfl rfl 67 _ br (by kernel_rfl) rfl (by kernel_rfl) ?_))
    refine bodyPost_ret (v := .agg #[.int .i64 0, .int .i64 0, .int .i64 9]) ?_ rfl ⟨by rw [HE.out], HBF.out⟩
    simp [results, Tryz.results100, go_sem, HPP.out]
theorem rbetween_i (k : Kl) (v : Value) (x y : Int) (w : World) (hk : Kiln w v k) (hR : Right k) (hx : 0 ≤ x ∧ x < mN k) (hy : 0 ≤ y ∧ y < mN k) :
    Calls Tryz.prog 100 #[v, .int .i64 x, .int .i64 y] w fun e w' => e = .returned (.agg #[.int .i64 (betw k x y).1.1, .int .i64 (betw k x y).1.2, .int .i64 (betw k x y).2]) ∧ Below w.heap.size w w' := by
  obtain ⟨a, rfl⟩ := Int.eq_ofNat_of_zero_le hx.1
  obtain ⟨b, rfl⟩ := Int.eq_ofNat_of_zero_le hy.1
  exact rbetween_c k v a b w hk hR (by omega) (by omega)
end Go.Proofs.YtnedcclmfokdnaaGreat
