/- Texts joined: FProgV FProgW FProgT FProgU FProgX. -/
import Derived.Test.YtjpoacffnpgjdaaGreatJ17
import Derived.Lib.MinMax
/- Far: by the program. -/
namespace Go.Proofs.YtjpoacffnpgjdaaGreat
open Go Go.RowKit Go.Shelf
attribute [local go_sem] Oper.semAt_some Rel RelAt RelUpon

set_option maxRecDepth 100000 in
set_option maxHeartbeats 4000000 in
theorem Far_c (f : Fi) (vl : Value) (p q : Spt) (w : World) (hl : Lks w w.heap.size vl f.ls) :
    Calls Tryz.prog 10 #[fiV f vl, sV p, sV q] w fun e w' => e = .returned (.tuple #[.int .i64 (farR f p q), .int .i64 (farE f p q)]) ∧ Below w.heap.size w w' := by
  obtain ⟨A, cap, rfl⟩ := hl.form
  obtain ⟨q0, q1, q2, qs, qb⟩ := three_new w (.cells #[.int .i64 f.rise, .int .i64 f.fall, .int .i64 f.up, .int .i64 f.down, .slice A f.ls.length cap] 24) (.cells #[.int .i64 p.foot, .int .i64 p.hour] 26) (.cells #[.int .i64 q.foot, .int .i64 q.hour] 26)
  obtain ⟨R, hR⟩ : ∃ r, r = farR f p q := ⟨_, rfl⟩
  obtain ⟨E, hE⟩ : ∃ r, r = farE f p q := ⟨_, rfl⟩
  rw [← hR, ← hE]
  have HR := Lib.hid hR
  have HE := Lib.hid hE
  clear hR hE
  have hC := fun W (hb : Below w.heap.size w W) => Check_c f (fiV f (.slice A f.ls.length cap)) W ⟨_, rfl, hl.later hb⟩
  unfold fiV at hC ⊢
  unfold sV
  go_enter Tryz.func10, Tryz.ntmps10
  go_wp2_with fail
  have QS := Lib.hid qs
  clear qs
  generalize ((w.alloc _).alloc _).alloc _ = W3 at q0 q1 q2 QS qb ⊢
  refine (hC W3 qb).mono ?_
  rintro e W4 ⟨rfl, hb4⟩
  replace q0 := (hb4.block _ (size_of_block q0)).trans q0
  replace q1 := (hb4.block _ (size_of_block q1)).trans q1
  replace q2 := (hb4.block _ (size_of_block q2)).trans q2
  replace qb := below_then qb hb4
  clear hb4 hC
  by_cases hf : fireI f = 0
  · have d1 : (fireI f != 0) = false := by simpa using hf
    have HF := Lib.hid hf
    clear hf
    have t0 := Joins.cell_of_block q1 0
    have t1 := Joins.cell_of_block q1 1
    have u0 := Joins.cell_of_block q2 0
    have u1 := Joins.cell_of_block q2 1
    go_wp2_with fail
    have hS := checkSpots_c _ [p, q] _ (spts2 (heap_alloc_new W4 (.cells #[.int .i64 p.foot, .int .i64 p.hour, .int .i64 q.foot, .int .i64 q.hour] 26)))
    refine hS.mono ?_
    rintro e W5 ⟨rfl, hb5⟩
    have hb5' := below_then (below_alloc W4 (.cells #[.int .i64 p.foot, .int .i64 p.hour, .int .i64 q.foot, .int .i64 q.hour] 26)) hb5
    replace q0 := (hb5'.block _ (size_of_block q0)).trans q0
    replace q1 := (hb5'.block _ (size_of_block q1)).trans q1
    replace q2 := (hb5'.block _ (size_of_block q2)).trans q2
    replace qb := below_then qb hb5'
    clear hb5 hb5' hS t0 t1 u0 u1
    rw [show (if [p, q].all spotB then (0 : Int) else 1) = spot2E p q by simp [spot2E]]
    by_cases hs : spot2E p q = 0
    · have HS := Lib.hid (spot2E_iff.1 hs)
      have HE2 : Hid (E = 0) := by show E = 0; rw [HE.out]; unfold farE; rw [if_neg (by rw [HF.out]; simp), hs]
      have HR2 : Hid (R = farI f p q) := by show R = _; rw [HR.out]; unfold farR; rw [if_pos (by rw [← HE.out]; exact HE2.out)]
      rw [hs]
      clear hs
      go_wp2_with fail
      have ok := fire_ok HF.out
      have hSl := fun W => slopesOf_c f A f.ls.length cap W
      have hFr := fun W => far_c f p q W ok.slope HS.out.1 HS.out.2
      unfold fiV slV at hSl
      unfold slV sV at hFr
      clear ok
      generalize farI f p q = far at hFr HR2
      refine wp_region_looseM [] [0, 2, 3] (.one 1 (.one 4 .done)) [] [] [5, 6] [] [] (by kernel_rfl) (by kernel_rfl) (by intro c a d v w h; cases d <;> exact h) (by intro c a d v w h; cases d <;> exact h) rfl (fun r i h => by simp at h) ?_
      simp only [pick, List.filterMap_cons, List.filterMap_nil, List.getElem?_toArray, List.getElem?_cons_succ, List.getElem?_cons_zero]
      intro u hu
      replace q0 := (hu.block _ (size_of_block q0)).trans q0
      replace q1 := (hu.block _ (size_of_block q1)).trans q1
      replace q2 := (hu.block _ (size_of_block q2)).trans q2
      replace qb := below_then qb hu
      have z0 := size_of_block q0
      have z1 := size_of_block q1
      have z2 := size_of_block q2
      have s0 := Joins.cell_of_block q0 0
      have s1 := Joins.cell_of_block q0 1
      have s2 := Joins.cell_of_block q0 2
      have s3 := Joins.cell_of_block q0 3
      have s4 := Joins.cell_of_block q0 4
      have t0 := Joins.cell_of_block q1 0
      have t1 := Joins.cell_of_block q1 1
      have u0 := Joins.cell_of_block q2 0
      have u1 := Joins.cell_of_block q2 1
      have hcg : ∀ (g : Gr u) b o, b < u.heap.size → g.val.cell? ⟨b, o, none⟩ = u.cell? ⟨b, o, none⟩ := fun g b o h => (bcell g.b).1 b o h
      iterate 3 (refine wpRel_step (fun K hK => ?_); go_simp; refine hK _ ?_; clear hK K)
      refine wpRel_nil fun V0 hb0 => ?_
      clear hcg s0 s1 s2 s3 s4 t0 t1 u0 u1
      have C0 := below_then qb hb0
      refine wpTr_step rfl rfl fun K hK => ?_
      go_simp
      refine (hSl V0).mono ?_
      rintro e X0 ⟨rfl, hx0⟩
      refine hK _ _ hx0 fun V1 hu1 => ?_
      clear hK K
      have C1 := below_then C0 (below_then hx0 hu1)
      refine wpTr_step rfl rfl fun K hK => ?_
      go_simp
      refine (hFr V1).mono ?_
      rintro e X1 ⟨rfl, hx1⟩
      refine hK _ _ hx1 fun V2 hu2 => ?_
      clear hK K
      have C2 := below_then C1 (below_then hx1 hu2)
      show wpPure _ _ _ _
      intro ks hk _ _
      obtain rfl : ks = [] := List.length_eq_zero_iff.1 hk
      clear hk
      show wpList _ _ _ _ _ _
      simp only [deco]
      go_wp2_with fail
      refine bodyPost_ret (v := .tuple #[.int .i64 far, .int .i64 0]) ?_ rfl ⟨by rw [HR2.out, HE2.out], C2⟩
      simp [results, Tryz.results10, go_sem]
    · have d2 : (spot2E p q != 0) = true := by simpa using hs
      have HE2 : Hid (E = spot2E p q) := by show E = _; rw [HE.out]; unfold farE; rw [if_neg (by rw [HF.out]; simp)]
      have HR2 : Hid (R = 0) := by show R = _; rw [HR.out]; unfold farR; rw [if_neg (by rw [← HE.out, HE2.out]; exact hs)]
      clear hs
      go_wp2_with fail
      refine bodyPost_ret (v := .tuple #[.int .i64 0, .int .i64 (spot2E p q)]) ?_ rfl ⟨by rw [HR2.out, HE2.out], qb⟩
      simp [results, Tryz.results10, go_sem]
  · have d1 : (fireI f != 0) = true := by simpa using hf
    have HE2 : Hid (E = fireI f) := by show E = _; rw [HE.out]; unfold farE; rw [if_pos hf]
    have HR2 : Hid (R = 0) := by show R = _; rw [HR.out]; unfold farR; rw [if_neg (by rw [← HE.out, HE2.out]; exact hf)]
    clear hf
    go_wp2_with fail
    refine bodyPost_ret (v := .tuple #[.int .i64 0, .int .i64 (fireI f)]) ?_ rfl ⟨by rw [HR2.out, HE2.out], qb⟩
    simp [results, Tryz.results10, go_sem]
end Go.Proofs.YtjpoacffnpgjdaaGreat
/- Clash: by the program. -/
namespace Go.Proofs.YtjpoacffnpgjdaaGreat
open Go Go.RowKit Go.Shelf
attribute [local go_sem] Oper.semAt_some Rel RelAt RelUpon

set_option maxRecDepth 100000 in
set_option maxHeartbeats 4000000 in
theorem Clash_c (f : Fi) (vl : Value) (w : World) (hl : Lks w w.heap.size vl f.ls) :
    Calls Tryz.prog 12 #[fiV f vl] w fun e w' => e = .returned (.tuple #[.int .i64 (clashR f).a, .int .i64 (clashR f).b, .bool (clashR f).is, .int .i64 (fireI f)]) ∧ Below w.heap.size w w' := by
  obtain ⟨A, cap, rfl⟩ := hl.form
  have q0 := heap_alloc_new w (.cells #[.int .i64 f.rise, .int .i64 f.fall, .int .i64 f.up, .int .i64 f.down, .slice A f.ls.length cap] 24)
  have qb := below_alloc w (.cells #[.int .i64 f.rise, .int .i64 f.fall, .int .i64 f.up, .int .i64 f.down, .slice A f.ls.length cap] 24)
  obtain ⟨R, hR⟩ : ∃ r, r = clashR f := ⟨_, rfl⟩
  rw [← hR]
  have HR := Lib.hid hR
  clear hR
  have hC := fun W (hb : Below w.heap.size w W) => Check_c f (fiV f (.slice A f.ls.length cap)) W ⟨_, rfl, hl.later hb⟩
  have hSO := fun W (hb : Below w.heap.size w W) => sightOf_c f (.slice A f.ls.length cap) W (hl.later hb)
  unfold fiV at hC hSO ⊢
  go_enter Tryz.func12, Tryz.ntmps12
  go_wp2_with fail
  generalize w.alloc _ = W3 at q0 qb ⊢
  refine (hC W3 qb).mono ?_
  rintro e W4 ⟨rfl, hb4⟩
  replace q0 := (hb4.block _ (size_of_block q0)).trans q0
  replace qb := below_then qb hb4
  clear hb4 hC
  by_cases hf : fireI f = 0
  · have HR2 : Hid (R = clashI f f.ls) := by show R = _; rw [HR.out]; unfold clashR; rw [if_pos hf]
    have ok := fire_ok hf
    have HF := Lib.hid hf
    rw [hf]
    clear hf
    have s0 := Joins.cell_of_block q0 0
    have s1 := Joins.cell_of_block q0 1
    have s2 := Joins.cell_of_block q0 2
    have s3 := Joins.cell_of_block q0 3
    have s4 := Joins.cell_of_block q0 4
    go_wp2_with fail
    refine (hSO W4 qb ok.ids (by have := ok.len; omega)).mono ?_
    rintro e w5 ⟨S, gf, lb, rfl, hS, hGv, hb5⟩
    clear s0 s1 s2 s3 s4 hSO
    have hCl := clash_c f S f.ls gf lb w5 ⟨ok.slope, ok.look, hS⟩ (hGv w5 (fun _ _ _ => rfl) (Nat.le_refl _))
    rw [clashS_eq hS, ← HR2.out] at hCl
    have B5 := below_then qb hb5
    unfold siV at hCl ⊢
    clear hS hGv hb5 qb ok
    go_wp2_with fail
    refine hCl.mono ?_
    rintro e w6 ⟨rfl, hb6⟩
    have B6 := below_then B5 hb6
    clear hCl hb6 B5
    obtain ⟨ra, rb, ri⟩ := R
    go_wp2_with fail
    refine bodyPost_ret (v := .tuple #[.int .i64 ra, .int .i64 rb, .bool ri, .int .i64 0]) ?_ rfl ⟨by rw [HF.out], B6⟩
    simp [results, Tryz.results12, go_sem]
  · have d1 : (fireI f != 0) = true := by simpa using hf
    have HR2 : Hid (R = ⟨0, 0, false⟩) := by show R = _; rw [HR.out]; unfold clashR; rw [if_neg hf]
    clear hf hSO
    go_wp2_with fail
    refine bodyPost_ret (v := .tuple #[.int .i64 0, .int .i64 0, .bool false, .int .i64 (fireI f)]) ?_ rfl ⟨by rw [HR2.out], qb⟩
    simp [results, Tryz.results12, go_sem]
end Go.Proofs.YtjpoacffnpgjdaaGreat
/- Whether a look decides: by the program (written by tools/gendecides.py). -/
namespace Go.Proofs.YtjpoacffnpgjdaaGreat
open Go Go.RowKit Go.Shelf
attribute [local go_sem] Oper.semAt_some Rel RelAt RelUpon Tryz.fieldEnd0

theorem decide_eq3 {f : Fi} {ls : List Lk} {look at_ : Spt} {need : Int} {N : Int} (hN : N = needI f ls look at_ need) :
    (decide (0 ≤ N) && decide (endLo f ls look < (if N < 0 then 0 else N)) && decide (min (endHi f ls at_) (endLo f ls look + farI f look at_) < need)) = decideB f ls look at_ need := by
  have h0 := (lo_ge f ls look).1
  unfold decideB
  rw [← hN]
  generalize decide (min (endHi f ls at_) (endLo f ls look + farI f look at_) < need) = b
  rw [Bool.eq_iff_iff]
  simp only [Bool.and_eq_true, decide_eq_true_eq]
  by_cases h : N < 0
  · rw [if_pos h]; constructor <;> (rintro ⟨h1, h2⟩; first | omega | (exfalso; omega))
  · rw [if_neg h]; constructor
    · rintro ⟨⟨_, h1⟩, h2⟩; exact ⟨h1, h2⟩
    · rintro ⟨h1, h2⟩; exact ⟨⟨by omega, h1⟩, h2⟩
set_option maxRecDepth 100000 in
set_option maxHeartbeats 8000000 in
theorem decides_c (f : Fi) (S ls : List Lk) (gf : Nat) (lb : Array Value) (look at_ : Spt) (need : Int) (w : World) (h : SOk f S ls) (hp : spotB look = true) (hq : spotB at_ = true) (hn : 0 ≤ need ∧ need ≤ 1500)
    (hG : Gives Tryz.prog w.heap.size 0 fireU (.func (.func gf) #[] lb) encLk S w) :
    Calls Tryz.prog 106 #[siV f (.func (.func gf) #[] lb), sV look, sV at_, .int .i64 need] w fun e w' => e = .returned (.bool (decideB f ls look at_ need)) ∧ Below w.heap.size w w' := by
  obtain ⟨q0, q1, q2, qs, qb⟩ := three_new w (.cells #[.int .i64 f.rise, .int .i64 f.fall, .int .i64 f.up, .int .i64 f.down, .func (.func gf) #[] lb] 114) (.cells #[.int .i64 look.foot, .int .i64 look.hour] 26) (.cells #[.int .i64 at_.foot, .int .i64 at_.hour] 26)
  have HQ := Lib.hid (fun (W : World) (p : Spt) (hp : spotB p = true) (Bs : Nat) b1 b2 => low1_c f S ls gf lb p Bs W h hp b1 b2)
  have HQ2 := Lib.hid (fun (W : World) (p : Spt) (hp : spotB p = true) (Bs : Nat) b1 b2 => high1_c f S ls gf lb p Bs W h hp b1 b2)
  have hL := fun W => low_c f gf lb W
  have hH := fun W => high_c f gf lb W
  have hF := fun W => far_c f look at_ W h.slope hp hq
  have hNd := fun W (hb : Below w.heap.size w W) => needed_c f S ls gf lb look at_ need W h hp hq hn ((hG.later hb).more hb.size)
  have fb := far_bounds h.slope hp hq
  have lob := lo_range h.slope h.look look
  have hlook := Lib.hid hp
  have hat := Lib.hid hq
  have HG := Lib.hid hG
  have HD := Lib.hid (decide_eq3 (f := f) (ls := ls) (look := look) (at_ := at_) (need := need) rfl)
  obtain ⟨res, hres⟩ : ∃ r, r = decideB f ls look at_ need := ⟨_, rfl⟩
  rw [← hres]
  have HR := Lib.hid hres
  obtain ⟨N, hN⟩ : ∃ N, N = needI f ls look at_ need := ⟨_, rfl⟩
  rw [← hN] at hNd HD
  obtain ⟨M, hM⟩ : ∃ M, M = (if N < 0 then 0 else N) := ⟨_, rfl⟩
  obtain ⟨ok, hok⟩ : ∃ b, b = decide (0 ≤ N) := ⟨_, rfl⟩
  rw [← hM, ← hok] at hNd HD
  unfold siV at hL hH
  unfold siV sV at hNd
  unfold sV slV at hF
  unfold sV at HQ HQ2
  unfold siV sV
  clear h hp hq hG hN hres hok hM
  generalize farI f look at_ = far at hF fb HD
  obtain ⟨low, hlow⟩ : ∃ x, x = endLo f ls look := ⟨_, rfl⟩
  rw [← hlow] at HD lob
  have HLow := Lib.hid hlow
  clear hlow
  go_enter Tryz.func106, Tryz.ntmps106
  go_wp2_with fail
  have QS := Lib.hid qs
  clear qs
  generalize ((w.alloc _).alloc _).alloc _ = W3 at q0 q1 q2 QS qb ⊢
  refine wp_region_looseM [] [0, 2] (.one 1 (.one 3 .done)) [] [4] [5] [] [] (by kernel_rfl) (by kernel_rfl) (by intro c a d v w h; cases d <;> exact h) (by intro c a d v w h; cases d <;> exact h) rfl (fun r i h => by simp at h) ?_
  simp only [pick, List.filterMap_cons, List.filterMap_nil, List.getElem?_toArray, List.getElem?_cons_succ, List.getElem?_cons_zero]
  intro u hu
  replace q0 := (hu.block _ (size_of_block q0)).trans q0
  replace q1 := (hu.block _ (size_of_block q1)).trans q1
  replace q2 := (hu.block _ (size_of_block q2)).trans q2
  replace qb := below_then qb hu
  have zq0 := size_of_block q0
  have zq1 := size_of_block q1
  have zq2 := size_of_block q2
  have s0 := Joins.cell_of_block q0 0
  have s1 := Joins.cell_of_block q0 1
  have s2 := Joins.cell_of_block q0 2
  have s3 := Joins.cell_of_block q0 3
  have s4 := Joins.cell_of_block q0 4
  have tq10 := Joins.cell_of_block q1 0
  have tq11 := Joins.cell_of_block q1 1
  have tq20 := Joins.cell_of_block q2 0
  have tq21 := Joins.cell_of_block q2 1
  have hcg : ∀ (g : Gr u) b o, b < u.heap.size → g.val.cell? ⟨b, o, none⟩ = u.cell? ⟨b, o, none⟩ := fun g b o h => (bcell g.b).1 b o h
  iterate 2 (refine wpRel_step (fun K hK => ?_); go_simp; refine hK _ ?_; clear hK K)
  refine wpRel_nil fun V0 hb0 => ?_
  clear hcg s0 s1 s2 s3 s4 tq10 tq11 tq20 tq21
  have C0 := below_then qb hb0
  refine wpTr_step rfl rfl fun K hK => ?_
  go_simp
  refine (hL V0).mono ?_
  rintro e X0 ⟨rfl, hX0⟩
  have y0 : X0.heap[V0.heap.size]? = some (.cells #[.int .i64 f.rise, .int .i64 f.fall, .int .i64 f.up, .int .i64 f.down, .func (.func gf) #[] lb] 114) := by rw [hX0]; exact heap_alloc_new _ _
  have hx0 : Below V0.heap.size V0 X0 := by rw [hX0]; exact below_alloc _ _
  clear hX0
  refine hK _ _ hx0 fun V1 hu1 => ?_
  clear hK K
  have y1 := (hu1.block _ (size_of_block y0)).trans y0
  have S1 := below_then hx0 hu1
  have C1 := below_then C0 S1
  have D1 := below_then hb0 S1
  have g1 := (HG.out.later C1).more C1.size
  refine wpTr_step rfl rfl fun K hK => ?_
  go_simp
  refine (HQ.out V1 look hlook.out V0.heap.size y1 g1).mono ?_
  rintro e X1 ⟨rfl, hx1⟩
  refine hK _ _ hx1 fun V2_1 hu2 => ?_
  clear hK K
  have S2 := below_then hx1 hu2
  have D2 := below_then D1 S2
  replace qb := below_then C1 S2
  replace q0 := (D2.block _ zq0).trans q0
  replace q1 := (D2.block _ zq1).trans q1
  replace q2 := (D2.block _ zq2).trans q2
  clear y0 y1 hx0 hu1 S1 C0 C1 D1 g1 hx1 hu2 S2 D2 hb0 hu zq0 zq1 zq2
  show wpPure _ _ _ _
  refine wpPure_step (.int .i64 (endLo f ls look)) rfl (fun u => by simp [execOp, go_sem, Tryz.fieldEnd0]) ?_
  intro ks hk _ _
  obtain rfl : ks = [] := List.length_eq_zero_iff.1 hk
  clear hk
  show wpList _ _ _ _ _ _
  simp only [deco]
  rw [← HLow.out]
  have hNd' := hNd V2_1 qb
  have s0 := Joins.cell_of_block q0 0
  have s1 := Joins.cell_of_block q0 1
  have s2 := Joins.cell_of_block q0 2
  have s3 := Joins.cell_of_block q0 3
  have s4 := Joins.cell_of_block q0 4
  have t0 := Joins.cell_of_block q1 0
  have t1 := Joins.cell_of_block q1 1
  have u0 := Joins.cell_of_block q2 0
  have u1 := Joins.cell_of_block q2 1
  go_wp2_with fail
  refine hNd'.mono ?_
  rintro e W4 ⟨rfl, hb4⟩
  clear hNd hNd' s0 s1 s2 s3 s4 t0 t1 u0 u1
  replace q0 := (hb4.block _ (size_of_block q0)).trans q0
  replace q1 := (hb4.block _ (size_of_block q1)).trans q1
  replace q2 := (hb4.block _ (size_of_block q2)).trans q2
  replace qb := below_then qb hb4
  clear hb4
  go_wp2_with fail
  have hwr := Lib.hid (show IntKind.i64.wrap (low + far) = low + far from IntWalk.i64_in _ ⟨by omega, by omega⟩)
  refine wp_region_looseM [5] [0, 2, 6, 7, 8, 9] (.one 1 (.one 3 (.alt (.one 4 (.one 10 (.one 11 .done))) (.one 10 (.alt (.one 4 (.one 11 .done)) (.one 11 (.one 4 .done))))))) [] [12] [13] [] [] (by kernel_rfl) (by kernel_rfl) (by intro c a d v w h; cases d <;> exact h) (by intro c a d v w h; cases d <;> exact h) rfl (fun r i h => by simp at h) ?_
  simp only [pick, List.filterMap_cons, List.filterMap_nil, List.getElem?_toArray, List.getElem?_cons_succ, List.getElem?_cons_zero]
  refine wpPure_step (.int .i64 low) rfl (fun u => rfl) ?_
  intro u hu
  replace q0 := (hu.block _ (size_of_block q0)).trans q0
  replace q1 := (hu.block _ (size_of_block q1)).trans q1
  replace q2 := (hu.block _ (size_of_block q2)).trans q2
  replace qb := below_then qb hu
  have zq0 := size_of_block q0
  have zq1 := size_of_block q1
  have zq2 := size_of_block q2
  have s0 := Joins.cell_of_block q0 0
  have s1 := Joins.cell_of_block q0 1
  have s2 := Joins.cell_of_block q0 2
  have s3 := Joins.cell_of_block q0 3
  have s4 := Joins.cell_of_block q0 4
  have t0 := Joins.cell_of_block q1 0
  have t1 := Joins.cell_of_block q1 1
  have u0 := Joins.cell_of_block q2 0
  have u1 := Joins.cell_of_block q2 1
  have hcg : ∀ (g : Gr u) b o, b < u.heap.size → g.val.cell? ⟨b, o, none⟩ = u.cell? ⟨b, o, none⟩ := fun g b o h => (bcell g.b).1 b o h
  iterate 6 (refine wpRel_step (fun K hK => ?_); go_simp; refine hK _ ?_; clear hK K)
  refine wpRel_nil fun V0 hb0 => ?_
  clear hcg s0 s1 s2 s3 s4 t0 t1 u0 u1
  have C0 := below_then qb hb0
  refine wpTr_step rfl rfl fun K hK => ?_
  go_simp
  refine (hH V0).mono ?_
  rintro e X0 ⟨rfl, hX0⟩
  have y0 : X0.heap[V0.heap.size]? = some (.cells #[.int .i64 f.rise, .int .i64 f.fall, .int .i64 f.up, .int .i64 f.down, .func (.func gf) #[] lb] 114) := by rw [hX0]; exact heap_alloc_new _ _
  have hx0 : Below V0.heap.size V0 X0 := by rw [hX0]; exact below_alloc _ _
  clear hX0
  refine hK _ _ hx0 fun V1 hu1 => ?_
  clear hK K
  have y1 := (hu1.block _ (size_of_block y0)).trans y0
  have S1 := below_then hx0 hu1
  have C1 := below_then C0 S1
  have g1 := (HG.out.later C1).more C1.size
  refine wpTr_step rfl rfl fun K hK => ?_
  go_simp
  refine (HQ2.out V1 at_ hat.out V0.heap.size y1 g1).mono ?_
  rintro e X1 ⟨rfl, hx1⟩
  refine hK _ _ hx1 fun V2 hu2 => ?_
  clear hK K
  have C2 := below_then C1 (below_then hx1 hu2)
  obtain ⟨hi, hhi⟩ : ∃ x, x = endHi f ls at_ := ⟨_, rfl⟩
  rw [← hhi]
  rw [← hhi] at HD
  clear hhi
  clear y0 y1 hx0 hu1 S1 C0 C1 g1 hx1 hu2 hb0 hu qb zq0 zq1 zq2 q0 q1 q2
  refine wpTr_alt ?_ ?_
  · refine wpTr_step rfl rfl fun K hK => ?_
    go_simp
    refine hK _ _ (Below.refl _ _) fun V3 hu3 => ?_
    clear hK K
    have C3 := below_then C2 hu3
    refine wpTr_step rfl rfl fun K hK => ?_
    go_simp
    refine (hF V3).mono ?_
    rintro e X3 ⟨rfl, hx3⟩
    refine hK _ _ hx3 fun V4 hu4 => ?_
    clear hK K
    have C4 := below_then C3 (below_then hx3 hu4)
    refine wpTr_step rfl rfl fun K hK => ?_
    go_simp
    refine hK _ _ (Below.refl _ _) fun V5 hu5 => ?_
    clear hK K
    have C5 := below_then C4 hu5
    show wpPure _ _ _ _
    refine wpPure_step (.int .i64 (min hi (low + far))) rfl (fun u => by simp [go_sem, hwr.out]) ?_
    intro ks hk _ _
    obtain rfl : ks = [] := List.length_eq_zero_iff.1 hk
    clear hk
    show wpList _ _ _ _ _ _
    simp only [deco]
    obtain ⟨most, hmost⟩ : ∃ x, x = min hi (low + far) := ⟨_, rfl⟩
    rw [← hmost] at HD ⊢
    clear hmost
    obtain ⟨b2, hb2⟩ : ∃ b, b = decide (low < M) := ⟨_, rfl⟩
    obtain ⟨b3, hb3⟩ : ∃ b, b = decide (most < need) := ⟨_, rfl⟩
    rw [← hb2, ← hb3, ← HR.out] at HD
    have d2 : decide (M > low) = b2 := hb2.symm
    have d3 : decide (most < need) = b3 := hb3.symm
    clear hb2 hb3
    cases ok <;> cases b2 <;> cases b3 <;> (go_wp2_with fail; go_ret; exact ⟨ret_bool HD.out, C5⟩)
  · refine wpTr_step rfl rfl fun K hK => ?_
    go_simp
    refine (hF V2).mono ?_
    rintro e X2 ⟨rfl, hx2⟩
    refine hK _ _ hx2 fun V3 hu3 => ?_
    clear hK K
    have C3 := below_then C2 (below_then hx2 hu3)
    refine wpTr_alt ?_ ?_
    · refine wpTr_step rfl rfl fun K hK => ?_
      go_simp
      refine hK _ _ (Below.refl _ _) fun V4 hu4 => ?_
      clear hK K
      have C4 := below_then C3 hu4
      refine wpTr_step rfl rfl fun K hK => ?_
      go_simp
      refine hK _ _ (Below.refl _ _) fun V5 hu5 => ?_
      clear hK K
      have C5 := below_then C4 hu5
      show wpPure _ _ _ _
      refine wpPure_step (.int .i64 (min hi (low + far))) rfl (fun u => by simp [go_sem, hwr.out]) ?_
      intro ks hk _ _
      obtain rfl : ks = [] := List.length_eq_zero_iff.1 hk
      clear hk
      show wpList _ _ _ _ _ _
      simp only [deco]
      obtain ⟨most, hmost⟩ : ∃ x, x = min hi (low + far) := ⟨_, rfl⟩
      rw [← hmost] at HD ⊢
      clear hmost
      obtain ⟨b2, hb2⟩ : ∃ b, b = decide (low < M) := ⟨_, rfl⟩
      obtain ⟨b3, hb3⟩ : ∃ b, b = decide (most < need) := ⟨_, rfl⟩
      rw [← hb2, ← hb3, ← HR.out] at HD
      have d2 : decide (M > low) = b2 := hb2.symm
      have d3 : decide (most < need) = b3 := hb3.symm
      clear hb2 hb3
      cases ok <;> cases b2 <;> cases b3 <;> (go_wp2_with fail; go_ret; exact ⟨ret_bool HD.out, C5⟩)
    · refine wpTr_step rfl rfl fun K hK => ?_
      go_simp
      refine hK _ _ (Below.refl _ _) fun V4 hu4 => ?_
      clear hK K
      have C4 := below_then C3 hu4
      refine wpTr_step rfl rfl fun K hK => ?_
      go_simp
      refine hK _ _ (Below.refl _ _) fun V5 hu5 => ?_
      clear hK K
      have C5 := below_then C4 hu5
      show wpPure _ _ _ _
      refine wpPure_step (.int .i64 (min hi (low + far))) rfl (fun u => by simp [go_sem, hwr.out]) ?_
      intro ks hk _ _
      obtain rfl : ks = [] := List.length_eq_zero_iff.1 hk
      clear hk
      show wpList _ _ _ _ _ _
      simp only [deco]
      obtain ⟨most, hmost⟩ : ∃ x, x = min hi (low + far) := ⟨_, rfl⟩
      rw [← hmost] at HD ⊢
      clear hmost
      obtain ⟨b2, hb2⟩ : ∃ b, b = decide (low < M) := ⟨_, rfl⟩
      obtain ⟨b3, hb3⟩ : ∃ b, b = decide (most < need) := ⟨_, rfl⟩
      rw [← hb2, ← hb3, ← HR.out] at HD
      have d2 : decide (M > low) = b2 := hb2.symm
      have d3 : decide (most < need) = b3 := hb3.symm
      clear hb2 hb3
      cases ok <;> cases b2 <;> cases b3 <;> (go_wp2_with fail; go_ret; exact ⟨ret_bool HD.out, C5⟩)
end Go.Proofs.YtjpoacffnpgjdaaGreat
/- Decides: by the program (written by tools/gendecides2.py). -/
namespace Go.Proofs.YtjpoacffnpgjdaaGreat
open Go Go.RowKit Go.Shelf
attribute [local go_sem] Oper.semAt_some Rel RelAt RelUpon

theorem inds_yes {α : Type} {P : α → Bool} {l : List α} {j : Nat} {x : α} (hx : l[j]? = some x) (h : P x = true) : indsF P l (j + 1) = indsF P l j ++ [(j : Int)] := by
  conv => lhs; unfold indsF
  rw [hx]; dsimp only; rw [if_pos h]
theorem inds_no {α : Type} {P : α → Bool} {l : List α} {j : Nat} {x : α} (hx : l[j]? = some x) (h : P x = false) : indsF P l (j + 1) = indsF P l j := by
  conv => lhs; unfold indsF
  rw [hx]; dsimp only; rw [if_neg (by rw [h]; simp)]
theorem inds_len {α : Type} (P : α → Bool) (l : List α) : ∀ j, (indsF P l j).length ≤ j
  | 0 => Nat.le_refl _
  | j + 1 => by
    have ih := inds_len P l j
    cases hx : l[j]? with
    | none => unfold indsF; rw [hx]; dsimp only; omega
    | some x =>
      cases hp : P x with
      | true => rw [inds_yes hx hp, List.length_append]; simp; omega
      | false => rw [inds_no hx hp]; omega
theorem ints3 {w : World} {n m r : Int} {k : Nat} {t : TypeId} (h : w.heap[k]? = some (.cells #[.int .i64 n, .int .i64 m, .int .i64 r] t)) : Ints w w.heap.size (.slice (some ⟨k, 0, none⟩) 3 3) [n, m, r] := by
  refine ⟨some ⟨k, 0, none⟩, 3, rfl, by simp, by simp, fun _ => ⟨k, 0, rfl, size_of_block h, fun i x hx j u hu => ?_⟩⟩
  match i, hx with
  | 0, hx =>
    obtain rfl : n = x := by simpa using hx
    match j, hu with
    | 0, hu => cases hu; exact Joins.cell_of_block h 0
    | j + 1, hu => simp [nC] at hu
  | 1, hx =>
    obtain rfl : m = x := by simpa using hx
    match j, hu with
    | 0, hu => cases hu; exact Joins.cell_of_block h 1
    | j + 1, hu => simp [nC] at hu
  | 2, hx =>
    obtain rfl : r = x := by simpa using hx
    match j, hu with
    | 0, hu => cases hu; exact Joins.cell_of_block h 2
    | j + 1, hu => simp [nC] at hu
  | i + 3, hx => simp at hx
set_option maxRecDepth 100000 in
set_option maxHeartbeats 16000000 in
theorem Decides_c (f : Fi) (vl v : Value) (l : List Spt) (at_ : Spt) (need : Int) (w : World) (hl : Lks w w.heap.size vl f.ls) (hv : Spts w w.heap.size v l) :
    Calls Tryz.prog 51 #[fiV f vl, v, sV at_, .int .i64 need] w fun e w' => ∃ u, e = .returned (.tuple #[u, .int .i64 (decideE f l at_ need)]) ∧ w'.ownsRow w.heap.size 3 1 u (decideR f l at_ need).length ((decideR f l at_ need).map (Value.int .i64)) ∧ Below w.heap.size w w' := by
  obtain ⟨A, cap, rfl⟩ := hl.form
  obtain ⟨q0, q1, qs, qb⟩ := two_new' w (.cells #[.int .i64 f.rise, .int .i64 f.fall, .int .i64 f.up, .int .i64 f.down, .slice A f.ls.length cap] 24) (.cells #[.int .i64 at_.foot, .int .i64 at_.hour] 26)
  have hK' := fun ve errs W (hb : Below w.heap.size w W) => known_c f (.slice A f.ls.length cap) ve errs W (hl.later hb)
  obtain ⟨A2, cap2, rfl, _, hn2, hat2⟩ := hv.open_
  have H2 := Lib.hid hat2
  have HV := Lib.hid hv
  clear hat2 hv
  obtain ⟨i0, hi, hz0, hz1, hz2⟩ := info_parts Tryz.infoIntF
  have HI := Lib.hid hi
  have HI0 := Lib.hid hz0
  have HI1 := Lib.hid hz1
  have HI2 := Lib.hid hz2
  clear hi hz0 hz1 hz2
  unfold fiV at hK' ⊢
  unfold sV
  go_enter Tryz.func51, Tryz.ntmps51
  go_wp2_with fail
  have QS := Lib.hid qs
  clear qs
  generalize (w.alloc _).alloc _ = W3 at q0 q1 QS qb ⊢
  generalize hpe1 : spotsI l = pe1
  generalize hpe2 : spotE at_ = pe2
  generalize hpe3 : heatE need = pe3
  refine wp_region_looseT [0, 1, 3, 6] (.alt (.one 2 (.alt (.one 4 (.alt (.one 5 (.one 7 (.one 8 (.one 9 (.one 10 .done))))) (.one 7 (.one 5 (.one 8 (.one 9 (.one 10 .done))))))) (.one 7 (.one 4 (.one 5 (.one 8 (.one 9 (.one 10 .done)))))))) (.alt (.one 4 (.alt (.one 2 (.alt (.one 5 (.one 7 (.one 8 (.one 9 (.one 10 .done))))) (.one 7 (.one 5 (.one 8 (.one 9 (.one 10 .done))))))) (.one 7 (.one 2 (.one 5 (.one 8 (.one 9 (.one 10 .done)))))))) (.one 7 (.alt (.one 2 (.one 4 (.one 5 (.one 8 (.one 9 (.one 10 .done)))))) (.one 4 (.one 2 (.one 5 (.one 8 (.one 9 (.one 10 .done)))))))))) [14] [11, 12, 13] [15, 16] [some 10] [.cells #[.int .i64 0, .int .i64 0, .int .i64 0, .int .i64 0, .nilFunc] 114] (by kernel_rfl) (by kernel_rfl) (by intro c a d v w h; cases d <;> exact h) (by intro c a d v w h; cases d <;> exact h) rfl ?_ ?_
  · intro r i hri
    match r, hri with
    | 0, hri => cases hri; exact ⟨_, _, rfl, rfl, rfl, rfl, fun a u => by simp [execOp, go_sem, ptrV]⟩
  · intro u hu
    replace q0 := (hu.block _ (size_of_block q0)).trans q0
    replace q1 := (hu.block _ (size_of_block q1)).trans q1
    replace qb := below_then qb hu
    have zq0 := size_of_block q0
    have cq00 := Joins.cell_of_block q0 0
    have cq01 := Joins.cell_of_block q0 1
    have cq02 := Joins.cell_of_block q0 2
    have cq03 := Joins.cell_of_block q0 3
    have cq04 := Joins.cell_of_block q0 4
    have zq1 := size_of_block q1
    have cq10 := Joins.cell_of_block q1 0
    have cq11 := Joins.cell_of_block q1 1
    have hcg : ∀ (g : Gr u) b o, b < u.heap.size → g.val.cell? ⟨b, o, none⟩ = u.cell? ⟨b, o, none⟩ := fun g b o h => (bcell g.b).1 b o h
    simp only [pick, List.filterMap_cons, List.filterMap_nil, List.getElem?_toArray, List.getElem?_cons_succ, List.getElem?_cons_zero]
    iterate 4 (refine wpRel_step (fun K hK => ?_); go_simp; refine hK _ ?_; clear hK K)
    refine wpRel_nil fun V0 hb0 => ?_
    clear hcg cq00 cq01 cq02 cq03 cq04 cq10 cq11
    have C0 := below_then qb hb0
    have D0 := hb0
    refine wpTr_alt ?_ ?_
    · refine wpTr_step rfl rfl fun K hK => ?_
      go_simp
      refine (checkList_c _ l V0 (HV.out.later C0)).mono ?_
      rintro e X0 ⟨rfl, hx0⟩
      rw [hpe1]
      refine hK _ _ hx0 fun V1 hu1 => ?_
      clear hK K
      have S1 := below_then hx0 hu1
      have C1 := below_then C0 S1
      have D1 := below_then D0 S1
      refine wpTr_alt ?_ ?_
      · refine wpTr_step rfl rfl fun K hK => ?_
        go_simp
        refine hK _ _ (below_alloc _ _) fun V2 hu2 => ?_
        clear hK K
        have ys := (hu2.block _ (by simp)).trans (heap_alloc_new V1 (.cells #[.int .i64 at_.foot, .int .i64 at_.hour] 26))
        have S2 := below_then (below_alloc V1 (.cells #[.int .i64 at_.foot, .int .i64 at_.hour] 26)) hu2
        have C2 := below_then C1 S2
        have D2 := below_then D1 S2
        refine wpTr_alt ?_ ?_
        · refine wpTr_step rfl rfl fun K hK => ?_
          go_simp
          refine (checkSpots_c _ [at_] V2 (spts1 ys)).mono ?_
          rintro e X2 ⟨rfl, hx2⟩
          rw [show (if [at_].all spotB then (0 : Int) else 1) = spotE at_ by simp [spotE], hpe2]
          refine hK _ _ hx2 fun V3 hu3 => ?_
          clear hK K
          have S3 := below_then hx2 hu3
          have C3 := below_then C2 S3
          have D3 := below_then D2 S3
          replace ys := (S3.block _ (size_of_block ys)).trans ys
          refine wpTr_step rfl rfl fun K hK => ?_
          go_simp
          refine hK _ _ (below_alloc _ _) fun V4 hu4 => ?_
          clear hK K
          have yn := (hu4.block _ (by simp)).trans (heap_alloc_new V3 (.cells #[.int .i64 need] 3))
          have S4 := below_then (below_alloc V3 (.cells #[.int .i64 need] 3)) hu4
          have C4 := below_then C3 S4
          have D4 := below_then D3 S4
          replace ys := (S4.block _ (size_of_block ys)).trans ys
          refine wpTr_step rfl rfl fun K hK => ?_
          go_simp
          refine (checkHeats_c _ [need] V4 (ints1 yn)).mono ?_
          rintro e X4 ⟨rfl, hx4⟩
          rw [show (if [need].all heatB then (0 : Int) else 1) = heatE need by simp [heatE], hpe3]
          refine hK _ _ hx4 fun V5 hu5 => ?_
          clear hK K
          have S5 := below_then hx4 hu5
          have C5 := below_then C4 S5
          have D5 := below_then D4 S5
          replace ys := (S5.block _ (size_of_block ys)).trans ys
          replace yn := (S5.block _ (size_of_block yn)).trans yn
          refine wpTr_step rfl rfl fun K hK => ?_
          go_simp
          refine hK _ _ (below_alloc _ _) fun V6 hu6 => ?_
          clear hK K
          have ye := (hu6.block _ (by simp)).trans (heap_alloc_new V5 (.cells #[.int .i64 pe1, .int .i64 pe2, .int .i64 pe3] 30))
          have S6 := below_then (below_alloc V5 (.cells #[.int .i64 pe1, .int .i64 pe2, .int .i64 pe3] 30)) hu6
          have C6 := below_then C5 S6
          have D6 := below_then D5 S6
          replace ys := (S6.block _ (size_of_block ys)).trans ys
          replace yn := (S6.block _ (size_of_block yn)).trans yn
          refine wpTr_step rfl rfl fun K hK => ?_
          go_simp
          refine (hK' _ [pe1, pe2, pe3] V6 C6 (ints3 ye)).mono ?_
          rintro e X6 ⟨sv, rfl, hz, hn, hx6⟩
          refine hK _ _ hx6 fun V7 hu7 => ?_
          clear hK K
          have S7 := below_then hx6 hu7
          have C7 := below_then C6 S7
          have D7 := below_then D6 S7
          replace ys := (S7.block _ (size_of_block ys)).trans ys
          replace yn := (S7.block _ (size_of_block yn)).trans yn
          replace ye := (S7.block _ (size_of_block ye)).trans ye
          obtain ⟨row, hrow, h5, h1c⟩ := sight_row hz hn
          have N10 : Hid (∀ k, k < X6.heap.size → V7.heap[k]? = X6.heap[k]?) := fun k h => hu7.block k h
          have Qq0 := (D7.block _ zq0).trans q0
          have Qq1 := (D7.block _ zq1).trans q1
          have n10 := hu7.size
          have n9 := hx6.size
          clear ys yn ye C0 C1 C2 C3 C4 C5 C6 D0 D1 D2 D3 D4 D5 D6 D7 S1 S2 S3 S4 S5 S6 S7 hu1 hu2 hu3 hu4 hu5 hu6 hu7 hK' hb0 q0 q1
          have HZ := Lib.hid hz
          have HN := Lib.hid hn
          have HROW := Lib.hid hrow
          clear hz hn
          generalize hke : knownE f [pe1, pe2, pe3] = ke at HZ HN ⊢
          rw [hrow]
          refine wpPure_step (.tuple #[.agg row, .int .i64 ke]) rfl (fun u => rfl) ?_
          refine wpPure_step (.agg row) rfl (fun u => rfl) ?_
          refine wpPure_step (.int .i64 ke) rfl (fun u => rfl) ?_
          intro ks hk hall hH
          obtain ⟨k1, rfl⟩ : ∃ k1, ks = [some k1] := by
            match ks, hk with
            | [none], _ => exact absurd rfl (hall 0)
            | [some k1], _ => exact ⟨k1, rfl⟩
          obtain ⟨o1, ge1, lt1⟩ := hH.obj 0 k1 rfl
          have ou := hH.out 0 k1 rfl (V6.heap.size, X6.heap.size) (by simp)
          rw [show ([Obj.cells #[.int .i64 0, .int .i64 0, .int .i64 0, .int .i64 0, .nilFunc] 114])[0]? = some (.cells #[.int .i64 0, .int .i64 0, .int .i64 0, .int .i64 0, .nilFunc] 114) from rfl] at o1
          rw [QS.out] at ge1
          clear hH hall hk
          have hkq0 : k1 ≠ w.heap.size := by omega
          have hkq1 : k1 ≠ w.heap.size + 1 := by omega
          show wpList _ _ _ _ _ _
          simp only [deco, ptrV]
          refine wpList_store_rowTo rfl 114 _ _ rfl rfl k1 row rfl rfl 114 _ o1 (by rw [Tryz.zSightSize, h5]) (by rw [h5]; rfl) h1c ?_
          have r1 := setRow_heap V7 k1 _ row _ _ o1
          have rq0 := (setRow_other V7 k1 (w.heap.size) row (Ne.symm hkq0)).trans Qq0
          have rq1 := (setRow_other V7 k1 (w.heap.size + 1) row (Ne.symm hkq1)).trans Qq1
          have B11 := below_setRow C7 (show w.heap.size ≤ k1 by omega) row
          have K11 : Hid (∀ k, V6.heap.size ≤ k → k < X6.heap.size → (V7.setRow k1 row).heap[k]? = X6.heap[k]?) := fun k h1 h2 => (setRow_other V7 k1 k row (by omega)).trans (N10.out k h2)
          have z11 := size_setRow V7 k1 row
          have n11 : X6.heap.size ≤ (V7.setRow k1 row).heap.size := by omega
          generalize V7.setRow k1 row = W11 at r1 rq0 rq1 B11 K11 n11 z11 ⊢
          clear o1 Qq0 Qq1 C7 N10 z11 n10 n9 ou lt1
          have HE : Hid (decideE f l at_ need = ke) := by show decideE f l at_ need = ke; unfold decideE; rw [hpe1, hpe2, hpe3, hke]
          by_cases h0 : ke = 0
          · obtain ⟨S, hS, hKn⟩ := HZ.out h0
            obtain ⟨gf, lb, hform⟩ := hKn.form
            have hgv := hKn.gives gf lb hform W11 (fun k h1 h2 => K11.out k h1 h2) n11
            obtain rfl : row = #[.int .i64 f.rise, .int .i64 f.fall, .int .i64 f.up, .int .i64 f.down, .func (.func gf) #[] lb] := by
              have e := HROW.out.symm.trans hform
              simpa [siV] using e
            subst h0
            have h1 := first3.1 (known_zero hke).2.1
            rw [← hpe1, ← hpe2, ← hpe3] at h1
            have hsp := spotsI_iff.1 h1.1
            have hq := spotE_iff.1 h1.2.1
            have hn2' : 0 ≤ need ∧ need ≤ 1500 := by simpa [heatB, inF] using heatE_iff.1 h1.2.2
            have HR : Hid (decideR f l at_ need = indsF (fun p => decideB f f.ls p at_ need) l l.length) := by show decideR f l at_ need = _; unfold decideR; rw [if_pos HE.out]
            have HG := Lib.hid hgv
            have HD := Lib.hid (fun (W : World) (p : Spt) (hp : spotB p = true) (hb : Below W11.heap.size W11 W) => decides_c f S f.ls gf lb p at_ need W hS hp hq hn2' ((HG.out.later hb).more hb.size))
            unfold siV sV at HD
            have HSP := Lib.hid hsp
            have hll : l.length ≤ 24 := hsp.1
            have zb0 := B11.size
            have HB11 := Lib.hid B11
            clear hgv hKn hform HZ HN HROW K11 hS hpe1 hpe2 hpe3 hke h5 h1c h1 hsp hq hn2' B11
            go_wp2_with fail
            obtain ⟨PB, hPB⟩ : ∃ PB : Spt → Bool, PB = fun p => decideB f f.ls p at_ need := ⟨_, rfl⟩
            rw [← hPB] at HR
            have HPB : Hid (∀ p, decideB f f.ls p at_ need = PB p) := fun p => by rw [hPB]
            clear hPB
            go_loopw [12, 34] (fun v i wr => ∃ j : Nat, j ≤ l.length ∧ i = .int .i64 j ∧ wr.ownsRow W11.heap.size 3 1 v (indsF PB l j).length ((indsF PB l j).map (Value.int .i64)) ∧ Below W11.heap.size W11 wr) (fun _ i _ => l.length - (intOf i).toNat)
            case atStart => exact ⟨0, Nat.zero_le _, rfl, World.ownsRow_nil _ _ _ _, Below.refl _ _⟩
            case round =>
              obtain ⟨j, hj, rfl, hown, hbw⟩ := hrel
              have hbs := hbw.size
              by_cases hlt : j < l.length
              · obtain ⟨b, off, x, rfl, hb, hx0, c0, c1⟩ := H2.out j hlt
                have hx := Lib.hid hx0
                have hb11 : b < W11.heap.size := Nat.lt_of_lt_of_le hb zb0
                have e0 := (hbw.cell (p := ⟨b, off + j * 2, none⟩) hb11).trans ((HB11.out.cell (p := ⟨b, off + j * 2, none⟩) hb).trans c0)
                have e1 := (hbw.cell (p := ⟨b, off + j * 2 + 1, none⟩) hb11).trans ((HB11.out.cell (p := ⟨b, off + j * 2 + 1, none⟩) hb).trans c1)
                have hzb : b < wr.heap.size := Nat.lt_of_lt_of_le hb11 hbs
                have hsx := HSP.out.2 x (List.mem_of_getElem? hx0)
                have hil := inds_len PB l j
                clear hx0 c0 c1
                obtain ⟨W2, hW2⟩ : ∃ W2, W2 = wr.alloc (.cells #[.int .i64 x.foot, .int .i64 x.hour] 26) := ⟨_, rfl⟩
                have b2 : Below wr.heap.size wr W2 := by rw [hW2]; exact below_alloc _ _
                have e2 : W2.heap[wr.heap.size]? = some (.cells #[.int .i64 x.foot, .int .i64 x.hour] 26) := by rw [hW2]; exact heap_alloc_new _ _
                have HW2 := Lib.hid hW2
                clear hW2
                have g0 := Joins.cell_of_block e2 0
                have g1 := Joins.cell_of_block e2 1
                have B2 := below_then hbw b2
                have k1' := (B2.block _ (size_of_block r1)).trans r1
                have a1' := (B2.block _ (size_of_block rq1)).trans rq1
                have s0 := Joins.cell_of_block k1' 0
                have s1 := Joins.cell_of_block k1' 1
                have s2 := Joins.cell_of_block k1' 2
                have s3 := Joins.cell_of_block k1' 3
                have s4 := Joins.cell_of_block k1' 4
                have t0 := Joins.cell_of_block a1' 0
                have t1 := Joins.cell_of_block a1' 1
                have hc := HD.out W2 x hsx B2
                rw [HPB.out x] at hc
                have o2 := own_below hown b2
                have z2 := size_of_block e2
                clear e2 hown hbw b2 k1' a1'
                go_wp2_with (refine wpList_store_rowTo rfl 26 _ _ rfl rfl wr.heap.size #[.int .i64 x.foot, .int .i64 x.hour] rfl rfl 26 _ (heap_alloc_new wr _) (by kernel_rfl) rfl (by kernel_rfl) ?_; rw [World.setRow_alloc_new, ← HW2.out])
                refine hc.mono ?_
                rintro e W5 ⟨rfl, hb5⟩
                have o5 := own_below o2 hb5
                have B5 := below_then B2 hb5
                have n5 := B5.size
                clear hc o2 B2 hb5 g0 g1 e0 e1 s0 s1 s2 s3 s4 t0 t1
                rcases Bool.eq_false_or_eq_true (PB x) with hp | hp
                · have hy := Lib.hid (inds_yes (P := PB) hx.out hp)
                  rw [hp]
                  clear hp
                  go_wp2_with (at_builtin; refine wpList_append_own _ rfl _ _ 27 rfl W11.heap.size 3 i0 (.int .i64 0) 1 8 Tryz.underlying27 HI.out HI0.out HI1.out HI2.out rfl (by decide) _ _ _ rfl (o5.alloc _) ⟨W5.heap.size, 0, none⟩ 1 1 [.int .i64 (j : Int)] rfl rfl (cell_one_new _ _ _) (one_oneCell rfl) ?c3 ?c4 ?c5 ?_)
                  case c3 => unfold maxLen; omega
                  case c4 => omega
                  case c5 => simp; omega
                  intro v' w1 hown' hgrow _
                  have hB1 := below_append B5 (by omega) o5 hgrow
                  clear hgrow o5 B5
                  go_wp2_with fail
                  go_roundw
                  case rel => exact ⟨j + 1, by omega, by go_num, by rw [hy.out]; simpa [Nat.add_assoc] using hown', hB1⟩
                  case measure => simp [intOf]; omega
                · rw [← inds_no (P := PB) hx.out hp] at o5
                  rw [hp]
                  clear hp
                  go_wp2_with fail
                  go_roundw
                  case rel => exact ⟨j + 1, by omega, by go_num, o5, B5⟩
                  case measure => simp [intOf]; omega
              · obtain rfl : j = l.length := by omega
                rw [← HR.out] at hown
                go_wp2_with fail
                refine bodyPost_ret (v := .tuple #[_, .int .i64 0]) ?_ rfl ⟨_, by rw [HE.out], own_weak hown zb0, below_then HB11.out hbw⟩
                simp [results, Tryz.results51, go_sem]
          · have d1 : (ke != 0) = true := by simpa using h0
            have HR : Hid (decideR f l at_ need = []) := by show decideR f l at_ need = _; unfold decideR; rw [HE.out, if_neg h0]
            clear h0 HZ HN HROW K11 hpe1 hpe2 hpe3 hke h5 h1c
            go_wp2_with fail
            refine bodyPost_ret (v := .tuple #[.slice none 0 0, .int .i64 ke]) ?_ rfl ⟨_, by rw [HE.out], by rw [HR.out]; exact World.ownsRow_nil _ _ _ _, B11⟩
            simp [results, Tryz.results51, go_sem]
        · refine wpTr_step rfl rfl fun K hK => ?_
          go_simp
          refine hK _ _ (below_alloc _ _) fun V3 hu3 => ?_
          clear hK K
          have yn := (hu3.block _ (by simp)).trans (heap_alloc_new V2 (.cells #[.int .i64 need] 3))
          have S3 := below_then (below_alloc V2 (.cells #[.int .i64 need] 3)) hu3
          have C3 := below_then C2 S3
          have D3 := below_then D2 S3
          replace ys := (S3.block _ (size_of_block ys)).trans ys
          refine wpTr_step rfl rfl fun K hK => ?_
          go_simp
          refine (checkSpots_c _ [at_] V3 (spts1 ys)).mono ?_
          rintro e X3 ⟨rfl, hx3⟩
          rw [show (if [at_].all spotB then (0 : Int) else 1) = spotE at_ by simp [spotE], hpe2]
          refine hK _ _ hx3 fun V4 hu4 => ?_
          clear hK K
          have S4 := below_then hx3 hu4
          have C4 := below_then C3 S4
          have D4 := below_then D3 S4
          replace ys := (S4.block _ (size_of_block ys)).trans ys
          replace yn := (S4.block _ (size_of_block yn)).trans yn
          refine wpTr_step rfl rfl fun K hK => ?_
          go_simp
          refine (checkHeats_c _ [need] V4 (ints1 yn)).mono ?_
          rintro e X4 ⟨rfl, hx4⟩
          rw [show (if [need].all heatB then (0 : Int) else 1) = heatE need by simp [heatE], hpe3]
          refine hK _ _ hx4 fun V5 hu5 => ?_
          clear hK K
          have S5 := below_then hx4 hu5
          have C5 := below_then C4 S5
          have D5 := below_then D4 S5
          replace ys := (S5.block _ (size_of_block ys)).trans ys
          replace yn := (S5.block _ (size_of_block yn)).trans yn
          refine wpTr_step rfl rfl fun K hK => ?_
          go_simp
          refine hK _ _ (below_alloc _ _) fun V6 hu6 => ?_
          clear hK K
          have ye := (hu6.block _ (by simp)).trans (heap_alloc_new V5 (.cells #[.int .i64 pe1, .int .i64 pe2, .int .i64 pe3] 30))
          have S6 := below_then (below_alloc V5 (.cells #[.int .i64 pe1, .int .i64 pe2, .int .i64 pe3] 30)) hu6
          have C6 := below_then C5 S6
          have D6 := below_then D5 S6
          replace ys := (S6.block _ (size_of_block ys)).trans ys
          replace yn := (S6.block _ (size_of_block yn)).trans yn
          refine wpTr_step rfl rfl fun K hK => ?_
          go_simp
          refine (hK' _ [pe1, pe2, pe3] V6 C6 (ints3 ye)).mono ?_
          rintro e X6 ⟨sv, rfl, hz, hn, hx6⟩
          refine hK _ _ hx6 fun V7 hu7 => ?_
          clear hK K
          have S7 := below_then hx6 hu7
          have C7 := below_then C6 S7
          have D7 := below_then D6 S7
          replace ys := (S7.block _ (size_of_block ys)).trans ys
          replace yn := (S7.block _ (size_of_block yn)).trans yn
          replace ye := (S7.block _ (size_of_block ye)).trans ye
          obtain ⟨row, hrow, h5, h1c⟩ := sight_row hz hn
          have N10 : Hid (∀ k, k < X6.heap.size → V7.heap[k]? = X6.heap[k]?) := fun k h => hu7.block k h
          have Qq0 := (D7.block _ zq0).trans q0
          have Qq1 := (D7.block _ zq1).trans q1
          have n10 := hu7.size
          have n9 := hx6.size
          clear ys yn ye C0 C1 C2 C3 C4 C5 C6 D0 D1 D2 D3 D4 D5 D6 D7 S1 S2 S3 S4 S5 S6 S7 hu1 hu2 hu3 hu4 hu5 hu6 hu7 hK' hb0 q0 q1
          have HZ := Lib.hid hz
          have HN := Lib.hid hn
          have HROW := Lib.hid hrow
          clear hz hn
          generalize hke : knownE f [pe1, pe2, pe3] = ke at HZ HN ⊢
          rw [hrow]
          refine wpPure_step (.tuple #[.agg row, .int .i64 ke]) rfl (fun u => rfl) ?_
          refine wpPure_step (.agg row) rfl (fun u => rfl) ?_
          refine wpPure_step (.int .i64 ke) rfl (fun u => rfl) ?_
          intro ks hk hall hH
          obtain ⟨k1, rfl⟩ : ∃ k1, ks = [some k1] := by
            match ks, hk with
            | [none], _ => exact absurd rfl (hall 0)
            | [some k1], _ => exact ⟨k1, rfl⟩
          obtain ⟨o1, ge1, lt1⟩ := hH.obj 0 k1 rfl
          have ou := hH.out 0 k1 rfl (V6.heap.size, X6.heap.size) (by simp)
          rw [show ([Obj.cells #[.int .i64 0, .int .i64 0, .int .i64 0, .int .i64 0, .nilFunc] 114])[0]? = some (.cells #[.int .i64 0, .int .i64 0, .int .i64 0, .int .i64 0, .nilFunc] 114) from rfl] at o1
          rw [QS.out] at ge1
          clear hH hall hk
          have hkq0 : k1 ≠ w.heap.size := by omega
          have hkq1 : k1 ≠ w.heap.size + 1 := by omega
          show wpList _ _ _ _ _ _
          simp only [deco, ptrV]
          refine wpList_store_rowTo rfl 114 _ _ rfl rfl k1 row rfl rfl 114 _ o1 (by rw [Tryz.zSightSize, h5]) (by rw [h5]; rfl) h1c ?_
          have r1 := setRow_heap V7 k1 _ row _ _ o1
          have rq0 := (setRow_other V7 k1 (w.heap.size) row (Ne.symm hkq0)).trans Qq0
          have rq1 := (setRow_other V7 k1 (w.heap.size + 1) row (Ne.symm hkq1)).trans Qq1
          have B11 := below_setRow C7 (show w.heap.size ≤ k1 by omega) row
          have K11 : Hid (∀ k, V6.heap.size ≤ k → k < X6.heap.size → (V7.setRow k1 row).heap[k]? = X6.heap[k]?) := fun k h1 h2 => (setRow_other V7 k1 k row (by omega)).trans (N10.out k h2)
          have z11 := size_setRow V7 k1 row
          have n11 : X6.heap.size ≤ (V7.setRow k1 row).heap.size := by omega
          generalize V7.setRow k1 row = W11 at r1 rq0 rq1 B11 K11 n11 z11 ⊢
          clear o1 Qq0 Qq1 C7 N10 z11 n10 n9 ou lt1
          have HE : Hid (decideE f l at_ need = ke) := by show decideE f l at_ need = ke; unfold decideE; rw [hpe1, hpe2, hpe3, hke]
          by_cases h0 : ke = 0
          · obtain ⟨S, hS, hKn⟩ := HZ.out h0
            obtain ⟨gf, lb, hform⟩ := hKn.form
            have hgv := hKn.gives gf lb hform W11 (fun k h1 h2 => K11.out k h1 h2) n11
            obtain rfl : row = #[.int .i64 f.rise, .int .i64 f.fall, .int .i64 f.up, .int .i64 f.down, .func (.func gf) #[] lb] := by
              have e := HROW.out.symm.trans hform
              simpa [siV] using e
            subst h0
            have h1 := first3.1 (known_zero hke).2.1
            rw [← hpe1, ← hpe2, ← hpe3] at h1
            have hsp := spotsI_iff.1 h1.1
            have hq := spotE_iff.1 h1.2.1
            have hn2' : 0 ≤ need ∧ need ≤ 1500 := by simpa [heatB, inF] using heatE_iff.1 h1.2.2
            have HR : Hid (decideR f l at_ need = indsF (fun p => decideB f f.ls p at_ need) l l.length) := by show decideR f l at_ need = _; unfold decideR; rw [if_pos HE.out]
            have HG := Lib.hid hgv
            have HD := Lib.hid (fun (W : World) (p : Spt) (hp : spotB p = true) (hb : Below W11.heap.size W11 W) => decides_c f S f.ls gf lb p at_ need W hS hp hq hn2' ((HG.out.later hb).more hb.size))
            unfold siV sV at HD
            have HSP := Lib.hid hsp
            have hll : l.length ≤ 24 := hsp.1
            have zb0 := B11.size
            have HB11 := Lib.hid B11
            clear hgv hKn hform HZ HN HROW K11 hS hpe1 hpe2 hpe3 hke h5 h1c h1 hsp hq hn2' B11
            go_wp2_with fail
            obtain ⟨PB, hPB⟩ : ∃ PB : Spt → Bool, PB = fun p => decideB f f.ls p at_ need := ⟨_, rfl⟩
            rw [← hPB] at HR
            have HPB : Hid (∀ p, decideB f f.ls p at_ need = PB p) := fun p => by rw [hPB]
            clear hPB
            go_loopw [12, 34] (fun v i wr => ∃ j : Nat, j ≤ l.length ∧ i = .int .i64 j ∧ wr.ownsRow W11.heap.size 3 1 v (indsF PB l j).length ((indsF PB l j).map (Value.int .i64)) ∧ Below W11.heap.size W11 wr) (fun _ i _ => l.length - (intOf i).toNat)
            case atStart => exact ⟨0, Nat.zero_le _, rfl, World.ownsRow_nil _ _ _ _, Below.refl _ _⟩
            case round =>
              obtain ⟨j, hj, rfl, hown, hbw⟩ := hrel
              have hbs := hbw.size
              by_cases hlt : j < l.length
              · obtain ⟨b, off, x, rfl, hb, hx0, c0, c1⟩ := H2.out j hlt
                have hx := Lib.hid hx0
                have hb11 : b < W11.heap.size := Nat.lt_of_lt_of_le hb zb0
                have e0 := (hbw.cell (p := ⟨b, off + j * 2, none⟩) hb11).trans ((HB11.out.cell (p := ⟨b, off + j * 2, none⟩) hb).trans c0)
                have e1 := (hbw.cell (p := ⟨b, off + j * 2 + 1, none⟩) hb11).trans ((HB11.out.cell (p := ⟨b, off + j * 2 + 1, none⟩) hb).trans c1)
                have hzb : b < wr.heap.size := Nat.lt_of_lt_of_le hb11 hbs
                have hsx := HSP.out.2 x (List.mem_of_getElem? hx0)
                have hil := inds_len PB l j
                clear hx0 c0 c1
                obtain ⟨W2, hW2⟩ : ∃ W2, W2 = wr.alloc (.cells #[.int .i64 x.foot, .int .i64 x.hour] 26) := ⟨_, rfl⟩
                have b2 : Below wr.heap.size wr W2 := by rw [hW2]; exact below_alloc _ _
                have e2 : W2.heap[wr.heap.size]? = some (.cells #[.int .i64 x.foot, .int .i64 x.hour] 26) := by rw [hW2]; exact heap_alloc_new _ _
                have HW2 := Lib.hid hW2
                clear hW2
                have g0 := Joins.cell_of_block e2 0
                have g1 := Joins.cell_of_block e2 1
                have B2 := below_then hbw b2
                have k1' := (B2.block _ (size_of_block r1)).trans r1
                have a1' := (B2.block _ (size_of_block rq1)).trans rq1
                have s0 := Joins.cell_of_block k1' 0
                have s1 := Joins.cell_of_block k1' 1
                have s2 := Joins.cell_of_block k1' 2
                have s3 := Joins.cell_of_block k1' 3
                have s4 := Joins.cell_of_block k1' 4
                have t0 := Joins.cell_of_block a1' 0
                have t1 := Joins.cell_of_block a1' 1
                have hc := HD.out W2 x hsx B2
                rw [HPB.out x] at hc
                have o2 := own_below hown b2
                have z2 := size_of_block e2
                clear e2 hown hbw b2 k1' a1'
                go_wp2_with (refine wpList_store_rowTo rfl 26 _ _ rfl rfl wr.heap.size #[.int .i64 x.foot, .int .i64 x.hour] rfl rfl 26 _ (heap_alloc_new wr _) (by kernel_rfl) rfl (by kernel_rfl) ?_; rw [World.setRow_alloc_new, ← HW2.out])
                refine hc.mono ?_
                rintro e W5 ⟨rfl, hb5⟩
                have o5 := own_below o2 hb5
                have B5 := below_then B2 hb5
                have n5 := B5.size
                clear hc o2 B2 hb5 g0 g1 e0 e1 s0 s1 s2 s3 s4 t0 t1
                rcases Bool.eq_false_or_eq_true (PB x) with hp | hp
                · have hy := Lib.hid (inds_yes (P := PB) hx.out hp)
                  rw [hp]
                  clear hp
                  go_wp2_with (at_builtin; refine wpList_append_own _ rfl _ _ 27 rfl W11.heap.size 3 i0 (.int .i64 0) 1 8 Tryz.underlying27 HI.out HI0.out HI1.out HI2.out rfl (by decide) _ _ _ rfl (o5.alloc _) ⟨W5.heap.size, 0, none⟩ 1 1 [.int .i64 (j : Int)] rfl rfl (cell_one_new _ _ _) (one_oneCell rfl) ?c3 ?c4 ?c5 ?_)
                  case c3 => unfold maxLen; omega
                  case c4 => omega
                  case c5 => simp; omega
                  intro v' w1 hown' hgrow _
                  have hB1 := below_append B5 (by omega) o5 hgrow
                  clear hgrow o5 B5
                  go_wp2_with fail
                  go_roundw
                  case rel => exact ⟨j + 1, by omega, by go_num, by rw [hy.out]; simpa [Nat.add_assoc] using hown', hB1⟩
                  case measure => simp [intOf]; omega
                · rw [← inds_no (P := PB) hx.out hp] at o5
                  rw [hp]
                  clear hp
                  go_wp2_with fail
                  go_roundw
                  case rel => exact ⟨j + 1, by omega, by go_num, o5, B5⟩
                  case measure => simp [intOf]; omega
              · obtain rfl : j = l.length := by omega
                rw [← HR.out] at hown
                go_wp2_with fail
                refine bodyPost_ret (v := .tuple #[_, .int .i64 0]) ?_ rfl ⟨_, by rw [HE.out], own_weak hown zb0, below_then HB11.out hbw⟩
                simp [results, Tryz.results51, go_sem]
          · have d1 : (ke != 0) = true := by simpa using h0
            have HR : Hid (decideR f l at_ need = []) := by show decideR f l at_ need = _; unfold decideR; rw [HE.out, if_neg h0]
            clear h0 HZ HN HROW K11 hpe1 hpe2 hpe3 hke h5 h1c
            go_wp2_with fail
            refine bodyPost_ret (v := .tuple #[.slice none 0 0, .int .i64 ke]) ?_ rfl ⟨_, by rw [HE.out], by rw [HR.out]; exact World.ownsRow_nil _ _ _ _, B11⟩
            simp [results, Tryz.results51, go_sem]
      · refine wpTr_step rfl rfl fun K hK => ?_
        go_simp
        refine hK _ _ (below_alloc _ _) fun V2 hu2 => ?_
        clear hK K
        have yn := (hu2.block _ (by simp)).trans (heap_alloc_new V1 (.cells #[.int .i64 need] 3))
        have S2 := below_then (below_alloc V1 (.cells #[.int .i64 need] 3)) hu2
        have C2 := below_then C1 S2
        have D2 := below_then D1 S2
        refine wpTr_step rfl rfl fun K hK => ?_
        go_simp
        refine hK _ _ (below_alloc _ _) fun V3 hu3 => ?_
        clear hK K
        have ys := (hu3.block _ (by simp)).trans (heap_alloc_new V2 (.cells #[.int .i64 at_.foot, .int .i64 at_.hour] 26))
        have S3 := below_then (below_alloc V2 (.cells #[.int .i64 at_.foot, .int .i64 at_.hour] 26)) hu3
        have C3 := below_then C2 S3
        have D3 := below_then D2 S3
        replace yn := (S3.block _ (size_of_block yn)).trans yn
        refine wpTr_step rfl rfl fun K hK => ?_
        go_simp
        refine (checkSpots_c _ [at_] V3 (spts1 ys)).mono ?_
        rintro e X3 ⟨rfl, hx3⟩
        rw [show (if [at_].all spotB then (0 : Int) else 1) = spotE at_ by simp [spotE], hpe2]
        refine hK _ _ hx3 fun V4 hu4 => ?_
        clear hK K
        have S4 := below_then hx3 hu4
        have C4 := below_then C3 S4
        have D4 := below_then D3 S4
        replace yn := (S4.block _ (size_of_block yn)).trans yn
        replace ys := (S4.block _ (size_of_block ys)).trans ys
        refine wpTr_step rfl rfl fun K hK => ?_
        go_simp
        refine (checkHeats_c _ [need] V4 (ints1 yn)).mono ?_
        rintro e X4 ⟨rfl, hx4⟩
        rw [show (if [need].all heatB then (0 : Int) else 1) = heatE need by simp [heatE], hpe3]
        refine hK _ _ hx4 fun V5 hu5 => ?_
        clear hK K
        have S5 := below_then hx4 hu5
        have C5 := below_then C4 S5
        have D5 := below_then D4 S5
        replace yn := (S5.block _ (size_of_block yn)).trans yn
        replace ys := (S5.block _ (size_of_block ys)).trans ys
        refine wpTr_step rfl rfl fun K hK => ?_
        go_simp
        refine hK _ _ (below_alloc _ _) fun V6 hu6 => ?_
        clear hK K
        have ye := (hu6.block _ (by simp)).trans (heap_alloc_new V5 (.cells #[.int .i64 pe1, .int .i64 pe2, .int .i64 pe3] 30))
        have S6 := below_then (below_alloc V5 (.cells #[.int .i64 pe1, .int .i64 pe2, .int .i64 pe3] 30)) hu6
        have C6 := below_then C5 S6
        have D6 := below_then D5 S6
        replace yn := (S6.block _ (size_of_block yn)).trans yn
        replace ys := (S6.block _ (size_of_block ys)).trans ys
        refine wpTr_step rfl rfl fun K hK => ?_
        go_simp
        refine (hK' _ [pe1, pe2, pe3] V6 C6 (ints3 ye)).mono ?_
        rintro e X6 ⟨sv, rfl, hz, hn, hx6⟩
        refine hK _ _ hx6 fun V7 hu7 => ?_
        clear hK K
        have S7 := below_then hx6 hu7
        have C7 := below_then C6 S7
        have D7 := below_then D6 S7
        replace yn := (S7.block _ (size_of_block yn)).trans yn
        replace ys := (S7.block _ (size_of_block ys)).trans ys
        replace ye := (S7.block _ (size_of_block ye)).trans ye
        obtain ⟨row, hrow, h5, h1c⟩ := sight_row hz hn
        have N10 : Hid (∀ k, k < X6.heap.size → V7.heap[k]? = X6.heap[k]?) := fun k h => hu7.block k h
        have Qq0 := (D7.block _ zq0).trans q0
        have Qq1 := (D7.block _ zq1).trans q1
        have n10 := hu7.size
        have n9 := hx6.size
        clear yn ys ye C0 C1 C2 C3 C4 C5 C6 D0 D1 D2 D3 D4 D5 D6 D7 S1 S2 S3 S4 S5 S6 S7 hu1 hu2 hu3 hu4 hu5 hu6 hu7 hK' hb0 q0 q1
        have HZ := Lib.hid hz
        have HN := Lib.hid hn
        have HROW := Lib.hid hrow
        clear hz hn
        generalize hke : knownE f [pe1, pe2, pe3] = ke at HZ HN ⊢
        rw [hrow]
        refine wpPure_step (.tuple #[.agg row, .int .i64 ke]) rfl (fun u => rfl) ?_
        refine wpPure_step (.agg row) rfl (fun u => rfl) ?_
        refine wpPure_step (.int .i64 ke) rfl (fun u => rfl) ?_
        intro ks hk hall hH
        obtain ⟨k1, rfl⟩ : ∃ k1, ks = [some k1] := by
          match ks, hk with
          | [none], _ => exact absurd rfl (hall 0)
          | [some k1], _ => exact ⟨k1, rfl⟩
        obtain ⟨o1, ge1, lt1⟩ := hH.obj 0 k1 rfl
        have ou := hH.out 0 k1 rfl (V6.heap.size, X6.heap.size) (by simp)
        rw [show ([Obj.cells #[.int .i64 0, .int .i64 0, .int .i64 0, .int .i64 0, .nilFunc] 114])[0]? = some (.cells #[.int .i64 0, .int .i64 0, .int .i64 0, .int .i64 0, .nilFunc] 114) from rfl] at o1
        rw [QS.out] at ge1
        clear hH hall hk
        have hkq0 : k1 ≠ w.heap.size := by omega
        have hkq1 : k1 ≠ w.heap.size + 1 := by omega
        show wpList _ _ _ _ _ _
        simp only [deco, ptrV]
        refine wpList_store_rowTo rfl 114 _ _ rfl rfl k1 row rfl rfl 114 _ o1 (by rw [Tryz.zSightSize, h5]) (by rw [h5]; rfl) h1c ?_
        have r1 := setRow_heap V7 k1 _ row _ _ o1
        have rq0 := (setRow_other V7 k1 (w.heap.size) row (Ne.symm hkq0)).trans Qq0
        have rq1 := (setRow_other V7 k1 (w.heap.size + 1) row (Ne.symm hkq1)).trans Qq1
        have B11 := below_setRow C7 (show w.heap.size ≤ k1 by omega) row
        have K11 : Hid (∀ k, V6.heap.size ≤ k → k < X6.heap.size → (V7.setRow k1 row).heap[k]? = X6.heap[k]?) := fun k h1 h2 => (setRow_other V7 k1 k row (by omega)).trans (N10.out k h2)
        have z11 := size_setRow V7 k1 row
        have n11 : X6.heap.size ≤ (V7.setRow k1 row).heap.size := by omega
        generalize V7.setRow k1 row = W11 at r1 rq0 rq1 B11 K11 n11 z11 ⊢
        clear o1 Qq0 Qq1 C7 N10 z11 n10 n9 ou lt1
        have HE : Hid (decideE f l at_ need = ke) := by show decideE f l at_ need = ke; unfold decideE; rw [hpe1, hpe2, hpe3, hke]
        by_cases h0 : ke = 0
        · obtain ⟨S, hS, hKn⟩ := HZ.out h0
          obtain ⟨gf, lb, hform⟩ := hKn.form
          have hgv := hKn.gives gf lb hform W11 (fun k h1 h2 => K11.out k h1 h2) n11
          obtain rfl : row = #[.int .i64 f.rise, .int .i64 f.fall, .int .i64 f.up, .int .i64 f.down, .func (.func gf) #[] lb] := by
            have e := HROW.out.symm.trans hform
            simpa [siV] using e
          subst h0
          have h1 := first3.1 (known_zero hke).2.1
          rw [← hpe1, ← hpe2, ← hpe3] at h1
          have hsp := spotsI_iff.1 h1.1
          have hq := spotE_iff.1 h1.2.1
          have hn2' : 0 ≤ need ∧ need ≤ 1500 := by simpa [heatB, inF] using heatE_iff.1 h1.2.2
          have HR : Hid (decideR f l at_ need = indsF (fun p => decideB f f.ls p at_ need) l l.length) := by show decideR f l at_ need = _; unfold decideR; rw [if_pos HE.out]
          have HG := Lib.hid hgv
          have HD := Lib.hid (fun (W : World) (p : Spt) (hp : spotB p = true) (hb : Below W11.heap.size W11 W) => decides_c f S f.ls gf lb p at_ need W hS hp hq hn2' ((HG.out.later hb).more hb.size))
          unfold siV sV at HD
          have HSP := Lib.hid hsp
          have hll : l.length ≤ 24 := hsp.1
          have zb0 := B11.size
          have HB11 := Lib.hid B11
          clear hgv hKn hform HZ HN HROW K11 hS hpe1 hpe2 hpe3 hke h5 h1c h1 hsp hq hn2' B11
          go_wp2_with fail
          obtain ⟨PB, hPB⟩ : ∃ PB : Spt → Bool, PB = fun p => decideB f f.ls p at_ need := ⟨_, rfl⟩
          rw [← hPB] at HR
          have HPB : Hid (∀ p, decideB f f.ls p at_ need = PB p) := fun p => by rw [hPB]
          clear hPB
          go_loopw [12, 34] (fun v i wr => ∃ j : Nat, j ≤ l.length ∧ i = .int .i64 j ∧ wr.ownsRow W11.heap.size 3 1 v (indsF PB l j).length ((indsF PB l j).map (Value.int .i64)) ∧ Below W11.heap.size W11 wr) (fun _ i _ => l.length - (intOf i).toNat)
          case atStart => exact ⟨0, Nat.zero_le _, rfl, World.ownsRow_nil _ _ _ _, Below.refl _ _⟩
          case round =>
            obtain ⟨j, hj, rfl, hown, hbw⟩ := hrel
            have hbs := hbw.size
            by_cases hlt : j < l.length
            · obtain ⟨b, off, x, rfl, hb, hx0, c0, c1⟩ := H2.out j hlt
              have hx := Lib.hid hx0
              have hb11 : b < W11.heap.size := Nat.lt_of_lt_of_le hb zb0
              have e0 := (hbw.cell (p := ⟨b, off + j * 2, none⟩) hb11).trans ((HB11.out.cell (p := ⟨b, off + j * 2, none⟩) hb).trans c0)
              have e1 := (hbw.cell (p := ⟨b, off + j * 2 + 1, none⟩) hb11).trans ((HB11.out.cell (p := ⟨b, off + j * 2 + 1, none⟩) hb).trans c1)
              have hzb : b < wr.heap.size := Nat.lt_of_lt_of_le hb11 hbs
              have hsx := HSP.out.2 x (List.mem_of_getElem? hx0)
              have hil := inds_len PB l j
              clear hx0 c0 c1
              obtain ⟨W2, hW2⟩ : ∃ W2, W2 = wr.alloc (.cells #[.int .i64 x.foot, .int .i64 x.hour] 26) := ⟨_, rfl⟩
              have b2 : Below wr.heap.size wr W2 := by rw [hW2]; exact below_alloc _ _
              have e2 : W2.heap[wr.heap.size]? = some (.cells #[.int .i64 x.foot, .int .i64 x.hour] 26) := by rw [hW2]; exact heap_alloc_new _ _
              have HW2 := Lib.hid hW2
              clear hW2
              have g0 := Joins.cell_of_block e2 0
              have g1 := Joins.cell_of_block e2 1
              have B2 := below_then hbw b2
              have k1' := (B2.block _ (size_of_block r1)).trans r1
              have a1' := (B2.block _ (size_of_block rq1)).trans rq1
              have s0 := Joins.cell_of_block k1' 0
              have s1 := Joins.cell_of_block k1' 1
              have s2 := Joins.cell_of_block k1' 2
              have s3 := Joins.cell_of_block k1' 3
              have s4 := Joins.cell_of_block k1' 4
              have t0 := Joins.cell_of_block a1' 0
              have t1 := Joins.cell_of_block a1' 1
              have hc := HD.out W2 x hsx B2
              rw [HPB.out x] at hc
              have o2 := own_below hown b2
              have z2 := size_of_block e2
              clear e2 hown hbw b2 k1' a1'
              go_wp2_with (refine wpList_store_rowTo rfl 26 _ _ rfl rfl wr.heap.size #[.int .i64 x.foot, .int .i64 x.hour] rfl rfl 26 _ (heap_alloc_new wr _) (by kernel_rfl) rfl (by kernel_rfl) ?_; rw [World.setRow_alloc_new, ← HW2.out])
              refine hc.mono ?_
              rintro e W5 ⟨rfl, hb5⟩
              have o5 := own_below o2 hb5
              have B5 := below_then B2 hb5
              have n5 := B5.size
              clear hc o2 B2 hb5 g0 g1 e0 e1 s0 s1 s2 s3 s4 t0 t1
              rcases Bool.eq_false_or_eq_true (PB x) with hp | hp
              · have hy := Lib.hid (inds_yes (P := PB) hx.out hp)
                rw [hp]
                clear hp
                go_wp2_with (at_builtin; refine wpList_append_own _ rfl _ _ 27 rfl W11.heap.size 3 i0 (.int .i64 0) 1 8 Tryz.underlying27 HI.out HI0.out HI1.out HI2.out rfl (by decide) _ _ _ rfl (o5.alloc _) ⟨W5.heap.size, 0, none⟩ 1 1 [.int .i64 (j : Int)] rfl rfl (cell_one_new _ _ _) (one_oneCell rfl) ?c3 ?c4 ?c5 ?_)
                case c3 => unfold maxLen; omega
                case c4 => omega
                case c5 => simp; omega
                intro v' w1 hown' hgrow _
                have hB1 := below_append B5 (by omega) o5 hgrow
                clear hgrow o5 B5
                go_wp2_with fail
                go_roundw
                case rel => exact ⟨j + 1, by omega, by go_num, by rw [hy.out]; simpa [Nat.add_assoc] using hown', hB1⟩
                case measure => simp [intOf]; omega
              · rw [← inds_no (P := PB) hx.out hp] at o5
                rw [hp]
                clear hp
                go_wp2_with fail
                go_roundw
                case rel => exact ⟨j + 1, by omega, by go_num, o5, B5⟩
                case measure => simp [intOf]; omega
            · obtain rfl : j = l.length := by omega
              rw [← HR.out] at hown
              go_wp2_with fail
              refine bodyPost_ret (v := .tuple #[_, .int .i64 0]) ?_ rfl ⟨_, by rw [HE.out], own_weak hown zb0, below_then HB11.out hbw⟩
              simp [results, Tryz.results51, go_sem]
        · have d1 : (ke != 0) = true := by simpa using h0
          have HR : Hid (decideR f l at_ need = []) := by show decideR f l at_ need = _; unfold decideR; rw [HE.out, if_neg h0]
          clear h0 HZ HN HROW K11 hpe1 hpe2 hpe3 hke h5 h1c
          go_wp2_with fail
          refine bodyPost_ret (v := .tuple #[.slice none 0 0, .int .i64 ke]) ?_ rfl ⟨_, by rw [HE.out], by rw [HR.out]; exact World.ownsRow_nil _ _ _ _, B11⟩
          simp [results, Tryz.results51, go_sem]
    refine wpTr_alt ?_ ?_
    · refine wpTr_step rfl rfl fun K hK => ?_
      go_simp
      refine hK _ _ (below_alloc _ _) fun V1 hu1 => ?_
      clear hK K
      have ys := (hu1.block _ (by simp)).trans (heap_alloc_new V0 (.cells #[.int .i64 at_.foot, .int .i64 at_.hour] 26))
      have S1 := below_then (below_alloc V0 (.cells #[.int .i64 at_.foot, .int .i64 at_.hour] 26)) hu1
      have C1 := below_then C0 S1
      have D1 := below_then D0 S1
      refine wpTr_alt ?_ ?_
      · refine wpTr_step rfl rfl fun K hK => ?_
        go_simp
        refine (checkList_c _ l V1 (HV.out.later C1)).mono ?_
        rintro e X1 ⟨rfl, hx1⟩
        rw [hpe1]
        refine hK _ _ hx1 fun V2 hu2 => ?_
        clear hK K
        have S2 := below_then hx1 hu2
        have C2 := below_then C1 S2
        have D2 := below_then D1 S2
        replace ys := (S2.block _ (size_of_block ys)).trans ys
        refine wpTr_alt ?_ ?_
        · refine wpTr_step rfl rfl fun K hK => ?_
          go_simp
          refine (checkSpots_c _ [at_] V2 (spts1 ys)).mono ?_
          rintro e X2 ⟨rfl, hx2⟩
          rw [show (if [at_].all spotB then (0 : Int) else 1) = spotE at_ by simp [spotE], hpe2]
          refine hK _ _ hx2 fun V3 hu3 => ?_
          clear hK K
          have S3 := below_then hx2 hu3
          have C3 := below_then C2 S3
          have D3 := below_then D2 S3
          replace ys := (S3.block _ (size_of_block ys)).trans ys
          refine wpTr_step rfl rfl fun K hK => ?_
          go_simp
          refine hK _ _ (below_alloc _ _) fun V4 hu4 => ?_
          clear hK K
          have yn := (hu4.block _ (by simp)).trans (heap_alloc_new V3 (.cells #[.int .i64 need] 3))
          have S4 := below_then (below_alloc V3 (.cells #[.int .i64 need] 3)) hu4
          have C4 := below_then C3 S4
          have D4 := below_then D3 S4
          replace ys := (S4.block _ (size_of_block ys)).trans ys
          refine wpTr_step rfl rfl fun K hK => ?_
          go_simp
          refine (checkHeats_c _ [need] V4 (ints1 yn)).mono ?_
          rintro e X4 ⟨rfl, hx4⟩
          rw [show (if [need].all heatB then (0 : Int) else 1) = heatE need by simp [heatE], hpe3]
          refine hK _ _ hx4 fun V5 hu5 => ?_
          clear hK K
          have S5 := below_then hx4 hu5
          have C5 := below_then C4 S5
          have D5 := below_then D4 S5
          replace ys := (S5.block _ (size_of_block ys)).trans ys
          replace yn := (S5.block _ (size_of_block yn)).trans yn
          refine wpTr_step rfl rfl fun K hK => ?_
          go_simp
          refine hK _ _ (below_alloc _ _) fun V6 hu6 => ?_
          clear hK K
          have ye := (hu6.block _ (by simp)).trans (heap_alloc_new V5 (.cells #[.int .i64 pe1, .int .i64 pe2, .int .i64 pe3] 30))
          have S6 := below_then (below_alloc V5 (.cells #[.int .i64 pe1, .int .i64 pe2, .int .i64 pe3] 30)) hu6
          have C6 := below_then C5 S6
          have D6 := below_then D5 S6
          replace ys := (S6.block _ (size_of_block ys)).trans ys
          replace yn := (S6.block _ (size_of_block yn)).trans yn
          refine wpTr_step rfl rfl fun K hK => ?_
          go_simp
          refine (hK' _ [pe1, pe2, pe3] V6 C6 (ints3 ye)).mono ?_
          rintro e X6 ⟨sv, rfl, hz, hn, hx6⟩
          refine hK _ _ hx6 fun V7 hu7 => ?_
          clear hK K
          have S7 := below_then hx6 hu7
          have C7 := below_then C6 S7
          have D7 := below_then D6 S7
          replace ys := (S7.block _ (size_of_block ys)).trans ys
          replace yn := (S7.block _ (size_of_block yn)).trans yn
          replace ye := (S7.block _ (size_of_block ye)).trans ye
          obtain ⟨row, hrow, h5, h1c⟩ := sight_row hz hn
          have N10 : Hid (∀ k, k < X6.heap.size → V7.heap[k]? = X6.heap[k]?) := fun k h => hu7.block k h
          have Qq0 := (D7.block _ zq0).trans q0
          have Qq1 := (D7.block _ zq1).trans q1
          have n10 := hu7.size
          have n9 := hx6.size
          clear ys yn ye C0 C1 C2 C3 C4 C5 C6 D0 D1 D2 D3 D4 D5 D6 D7 S1 S2 S3 S4 S5 S6 S7 hu1 hu2 hu3 hu4 hu5 hu6 hu7 hK' hb0 q0 q1
          have HZ := Lib.hid hz
          have HN := Lib.hid hn
          have HROW := Lib.hid hrow
          clear hz hn
          generalize hke : knownE f [pe1, pe2, pe3] = ke at HZ HN ⊢
          rw [hrow]
          refine wpPure_step (.tuple #[.agg row, .int .i64 ke]) rfl (fun u => rfl) ?_
          refine wpPure_step (.agg row) rfl (fun u => rfl) ?_
          refine wpPure_step (.int .i64 ke) rfl (fun u => rfl) ?_
          intro ks hk hall hH
          obtain ⟨k1, rfl⟩ : ∃ k1, ks = [some k1] := by
            match ks, hk with
            | [none], _ => exact absurd rfl (hall 0)
            | [some k1], _ => exact ⟨k1, rfl⟩
          obtain ⟨o1, ge1, lt1⟩ := hH.obj 0 k1 rfl
          have ou := hH.out 0 k1 rfl (V6.heap.size, X6.heap.size) (by simp)
          rw [show ([Obj.cells #[.int .i64 0, .int .i64 0, .int .i64 0, .int .i64 0, .nilFunc] 114])[0]? = some (.cells #[.int .i64 0, .int .i64 0, .int .i64 0, .int .i64 0, .nilFunc] 114) from rfl] at o1
          rw [QS.out] at ge1
          clear hH hall hk
          have hkq0 : k1 ≠ w.heap.size := by omega
          have hkq1 : k1 ≠ w.heap.size + 1 := by omega
          show wpList _ _ _ _ _ _
          simp only [deco, ptrV]
          refine wpList_store_rowTo rfl 114 _ _ rfl rfl k1 row rfl rfl 114 _ o1 (by rw [Tryz.zSightSize, h5]) (by rw [h5]; rfl) h1c ?_
          have r1 := setRow_heap V7 k1 _ row _ _ o1
          have rq0 := (setRow_other V7 k1 (w.heap.size) row (Ne.symm hkq0)).trans Qq0
          have rq1 := (setRow_other V7 k1 (w.heap.size + 1) row (Ne.symm hkq1)).trans Qq1
          have B11 := below_setRow C7 (show w.heap.size ≤ k1 by omega) row
          have K11 : Hid (∀ k, V6.heap.size ≤ k → k < X6.heap.size → (V7.setRow k1 row).heap[k]? = X6.heap[k]?) := fun k h1 h2 => (setRow_other V7 k1 k row (by omega)).trans (N10.out k h2)
          have z11 := size_setRow V7 k1 row
          have n11 : X6.heap.size ≤ (V7.setRow k1 row).heap.size := by omega
          generalize V7.setRow k1 row = W11 at r1 rq0 rq1 B11 K11 n11 z11 ⊢
          clear o1 Qq0 Qq1 C7 N10 z11 n10 n9 ou lt1
          have HE : Hid (decideE f l at_ need = ke) := by show decideE f l at_ need = ke; unfold decideE; rw [hpe1, hpe2, hpe3, hke]
          by_cases h0 : ke = 0
          · obtain ⟨S, hS, hKn⟩ := HZ.out h0
            obtain ⟨gf, lb, hform⟩ := hKn.form
            have hgv := hKn.gives gf lb hform W11 (fun k h1 h2 => K11.out k h1 h2) n11
            obtain rfl : row = #[.int .i64 f.rise, .int .i64 f.fall, .int .i64 f.up, .int .i64 f.down, .func (.func gf) #[] lb] := by
              have e := HROW.out.symm.trans hform
              simpa [siV] using e
            subst h0
            have h1 := first3.1 (known_zero hke).2.1
            rw [← hpe1, ← hpe2, ← hpe3] at h1
            have hsp := spotsI_iff.1 h1.1
            have hq := spotE_iff.1 h1.2.1
            have hn2' : 0 ≤ need ∧ need ≤ 1500 := by simpa [heatB, inF] using heatE_iff.1 h1.2.2
            have HR : Hid (decideR f l at_ need = indsF (fun p => decideB f f.ls p at_ need) l l.length) := by show decideR f l at_ need = _; unfold decideR; rw [if_pos HE.out]
            have HG := Lib.hid hgv
            have HD := Lib.hid (fun (W : World) (p : Spt) (hp : spotB p = true) (hb : Below W11.heap.size W11 W) => decides_c f S f.ls gf lb p at_ need W hS hp hq hn2' ((HG.out.later hb).more hb.size))
            unfold siV sV at HD
            have HSP := Lib.hid hsp
            have hll : l.length ≤ 24 := hsp.1
            have zb0 := B11.size
            have HB11 := Lib.hid B11
            clear hgv hKn hform HZ HN HROW K11 hS hpe1 hpe2 hpe3 hke h5 h1c h1 hsp hq hn2' B11
            go_wp2_with fail
            obtain ⟨PB, hPB⟩ : ∃ PB : Spt → Bool, PB = fun p => decideB f f.ls p at_ need := ⟨_, rfl⟩
            rw [← hPB] at HR
            have HPB : Hid (∀ p, decideB f f.ls p at_ need = PB p) := fun p => by rw [hPB]
            clear hPB
            go_loopw [12, 34] (fun v i wr => ∃ j : Nat, j ≤ l.length ∧ i = .int .i64 j ∧ wr.ownsRow W11.heap.size 3 1 v (indsF PB l j).length ((indsF PB l j).map (Value.int .i64)) ∧ Below W11.heap.size W11 wr) (fun _ i _ => l.length - (intOf i).toNat)
            case atStart => exact ⟨0, Nat.zero_le _, rfl, World.ownsRow_nil _ _ _ _, Below.refl _ _⟩
            case round =>
              obtain ⟨j, hj, rfl, hown, hbw⟩ := hrel
              have hbs := hbw.size
              by_cases hlt : j < l.length
              · obtain ⟨b, off, x, rfl, hb, hx0, c0, c1⟩ := H2.out j hlt
                have hx := Lib.hid hx0
                have hb11 : b < W11.heap.size := Nat.lt_of_lt_of_le hb zb0
                have e0 := (hbw.cell (p := ⟨b, off + j * 2, none⟩) hb11).trans ((HB11.out.cell (p := ⟨b, off + j * 2, none⟩) hb).trans c0)
                have e1 := (hbw.cell (p := ⟨b, off + j * 2 + 1, none⟩) hb11).trans ((HB11.out.cell (p := ⟨b, off + j * 2 + 1, none⟩) hb).trans c1)
                have hzb : b < wr.heap.size := Nat.lt_of_lt_of_le hb11 hbs
                have hsx := HSP.out.2 x (List.mem_of_getElem? hx0)
                have hil := inds_len PB l j
                clear hx0 c0 c1
                obtain ⟨W2, hW2⟩ : ∃ W2, W2 = wr.alloc (.cells #[.int .i64 x.foot, .int .i64 x.hour] 26) := ⟨_, rfl⟩
                have b2 : Below wr.heap.size wr W2 := by rw [hW2]; exact below_alloc _ _
                have e2 : W2.heap[wr.heap.size]? = some (.cells #[.int .i64 x.foot, .int .i64 x.hour] 26) := by rw [hW2]; exact heap_alloc_new _ _
                have HW2 := Lib.hid hW2
                clear hW2
                have g0 := Joins.cell_of_block e2 0
                have g1 := Joins.cell_of_block e2 1
                have B2 := below_then hbw b2
                have k1' := (B2.block _ (size_of_block r1)).trans r1
                have a1' := (B2.block _ (size_of_block rq1)).trans rq1
                have s0 := Joins.cell_of_block k1' 0
                have s1 := Joins.cell_of_block k1' 1
                have s2 := Joins.cell_of_block k1' 2
                have s3 := Joins.cell_of_block k1' 3
                have s4 := Joins.cell_of_block k1' 4
                have t0 := Joins.cell_of_block a1' 0
                have t1 := Joins.cell_of_block a1' 1
                have hc := HD.out W2 x hsx B2
                rw [HPB.out x] at hc
                have o2 := own_below hown b2
                have z2 := size_of_block e2
                clear e2 hown hbw b2 k1' a1'
                go_wp2_with (refine wpList_store_rowTo rfl 26 _ _ rfl rfl wr.heap.size #[.int .i64 x.foot, .int .i64 x.hour] rfl rfl 26 _ (heap_alloc_new wr _) (by kernel_rfl) rfl (by kernel_rfl) ?_; rw [World.setRow_alloc_new, ← HW2.out])
                refine hc.mono ?_
                rintro e W5 ⟨rfl, hb5⟩
                have o5 := own_below o2 hb5
                have B5 := below_then B2 hb5
                have n5 := B5.size
                clear hc o2 B2 hb5 g0 g1 e0 e1 s0 s1 s2 s3 s4 t0 t1
                rcases Bool.eq_false_or_eq_true (PB x) with hp | hp
                · have hy := Lib.hid (inds_yes (P := PB) hx.out hp)
                  rw [hp]
                  clear hp
                  go_wp2_with (at_builtin; refine wpList_append_own _ rfl _ _ 27 rfl W11.heap.size 3 i0 (.int .i64 0) 1 8 Tryz.underlying27 HI.out HI0.out HI1.out HI2.out rfl (by decide) _ _ _ rfl (o5.alloc _) ⟨W5.heap.size, 0, none⟩ 1 1 [.int .i64 (j : Int)] rfl rfl (cell_one_new _ _ _) (one_oneCell rfl) ?c3 ?c4 ?c5 ?_)
                  case c3 => unfold maxLen; omega
                  case c4 => omega
                  case c5 => simp; omega
                  intro v' w1 hown' hgrow _
                  have hB1 := below_append B5 (by omega) o5 hgrow
                  clear hgrow o5 B5
                  go_wp2_with fail
                  go_roundw
                  case rel => exact ⟨j + 1, by omega, by go_num, by rw [hy.out]; simpa [Nat.add_assoc] using hown', hB1⟩
                  case measure => simp [intOf]; omega
                · rw [← inds_no (P := PB) hx.out hp] at o5
                  rw [hp]
                  clear hp
                  go_wp2_with fail
                  go_roundw
                  case rel => exact ⟨j + 1, by omega, by go_num, o5, B5⟩
                  case measure => simp [intOf]; omega
              · obtain rfl : j = l.length := by omega
                rw [← HR.out] at hown
                go_wp2_with fail
                refine bodyPost_ret (v := .tuple #[_, .int .i64 0]) ?_ rfl ⟨_, by rw [HE.out], own_weak hown zb0, below_then HB11.out hbw⟩
                simp [results, Tryz.results51, go_sem]
          · have d1 : (ke != 0) = true := by simpa using h0
            have HR : Hid (decideR f l at_ need = []) := by show decideR f l at_ need = _; unfold decideR; rw [HE.out, if_neg h0]
            clear h0 HZ HN HROW K11 hpe1 hpe2 hpe3 hke h5 h1c
            go_wp2_with fail
            refine bodyPost_ret (v := .tuple #[.slice none 0 0, .int .i64 ke]) ?_ rfl ⟨_, by rw [HE.out], by rw [HR.out]; exact World.ownsRow_nil _ _ _ _, B11⟩
            simp [results, Tryz.results51, go_sem]
        · refine wpTr_step rfl rfl fun K hK => ?_
          go_simp
          refine hK _ _ (below_alloc _ _) fun V3 hu3 => ?_
          clear hK K
          have yn := (hu3.block _ (by simp)).trans (heap_alloc_new V2 (.cells #[.int .i64 need] 3))
          have S3 := below_then (below_alloc V2 (.cells #[.int .i64 need] 3)) hu3
          have C3 := below_then C2 S3
          have D3 := below_then D2 S3
          replace ys := (S3.block _ (size_of_block ys)).trans ys
          refine wpTr_step rfl rfl fun K hK => ?_
          go_simp
          refine (checkSpots_c _ [at_] V3 (spts1 ys)).mono ?_
          rintro e X3 ⟨rfl, hx3⟩
          rw [show (if [at_].all spotB then (0 : Int) else 1) = spotE at_ by simp [spotE], hpe2]
          refine hK _ _ hx3 fun V4 hu4 => ?_
          clear hK K
          have S4 := below_then hx3 hu4
          have C4 := below_then C3 S4
          have D4 := below_then D3 S4
          replace ys := (S4.block _ (size_of_block ys)).trans ys
          replace yn := (S4.block _ (size_of_block yn)).trans yn
          refine wpTr_step rfl rfl fun K hK => ?_
          go_simp
          refine (checkHeats_c _ [need] V4 (ints1 yn)).mono ?_
          rintro e X4 ⟨rfl, hx4⟩
          rw [show (if [need].all heatB then (0 : Int) else 1) = heatE need by simp [heatE], hpe3]
          refine hK _ _ hx4 fun V5 hu5 => ?_
          clear hK K
          have S5 := below_then hx4 hu5
          have C5 := below_then C4 S5
          have D5 := below_then D4 S5
          replace ys := (S5.block _ (size_of_block ys)).trans ys
          replace yn := (S5.block _ (size_of_block yn)).trans yn
          refine wpTr_step rfl rfl fun K hK => ?_
          go_simp
          refine hK _ _ (below_alloc _ _) fun V6 hu6 => ?_
          clear hK K
          have ye := (hu6.block _ (by simp)).trans (heap_alloc_new V5 (.cells #[.int .i64 pe1, .int .i64 pe2, .int .i64 pe3] 30))
          have S6 := below_then (below_alloc V5 (.cells #[.int .i64 pe1, .int .i64 pe2, .int .i64 pe3] 30)) hu6
          have C6 := below_then C5 S6
          have D6 := below_then D5 S6
          replace ys := (S6.block _ (size_of_block ys)).trans ys
          replace yn := (S6.block _ (size_of_block yn)).trans yn
          refine wpTr_step rfl rfl fun K hK => ?_
          go_simp
          refine (hK' _ [pe1, pe2, pe3] V6 C6 (ints3 ye)).mono ?_
          rintro e X6 ⟨sv, rfl, hz, hn, hx6⟩
          refine hK _ _ hx6 fun V7 hu7 => ?_
          clear hK K
          have S7 := below_then hx6 hu7
          have C7 := below_then C6 S7
          have D7 := below_then D6 S7
          replace ys := (S7.block _ (size_of_block ys)).trans ys
          replace yn := (S7.block _ (size_of_block yn)).trans yn
          replace ye := (S7.block _ (size_of_block ye)).trans ye
          obtain ⟨row, hrow, h5, h1c⟩ := sight_row hz hn
          have N10 : Hid (∀ k, k < X6.heap.size → V7.heap[k]? = X6.heap[k]?) := fun k h => hu7.block k h
          have Qq0 := (D7.block _ zq0).trans q0
          have Qq1 := (D7.block _ zq1).trans q1
          have n10 := hu7.size
          have n9 := hx6.size
          clear ys yn ye C0 C1 C2 C3 C4 C5 C6 D0 D1 D2 D3 D4 D5 D6 D7 S1 S2 S3 S4 S5 S6 S7 hu1 hu2 hu3 hu4 hu5 hu6 hu7 hK' hb0 q0 q1
          have HZ := Lib.hid hz
          have HN := Lib.hid hn
          have HROW := Lib.hid hrow
          clear hz hn
          generalize hke : knownE f [pe1, pe2, pe3] = ke at HZ HN ⊢
          rw [hrow]
          refine wpPure_step (.tuple #[.agg row, .int .i64 ke]) rfl (fun u => rfl) ?_
          refine wpPure_step (.agg row) rfl (fun u => rfl) ?_
          refine wpPure_step (.int .i64 ke) rfl (fun u => rfl) ?_
          intro ks hk hall hH
          obtain ⟨k1, rfl⟩ : ∃ k1, ks = [some k1] := by
            match ks, hk with
            | [none], _ => exact absurd rfl (hall 0)
            | [some k1], _ => exact ⟨k1, rfl⟩
          obtain ⟨o1, ge1, lt1⟩ := hH.obj 0 k1 rfl
          have ou := hH.out 0 k1 rfl (V6.heap.size, X6.heap.size) (by simp)
          rw [show ([Obj.cells #[.int .i64 0, .int .i64 0, .int .i64 0, .int .i64 0, .nilFunc] 114])[0]? = some (.cells #[.int .i64 0, .int .i64 0, .int .i64 0, .int .i64 0, .nilFunc] 114) from rfl] at o1
          rw [QS.out] at ge1
          clear hH hall hk
          have hkq0 : k1 ≠ w.heap.size := by omega
          have hkq1 : k1 ≠ w.heap.size + 1 := by omega
          show wpList _ _ _ _ _ _
          simp only [deco, ptrV]
          refine wpList_store_rowTo rfl 114 _ _ rfl rfl k1 row rfl rfl 114 _ o1 (by rw [Tryz.zSightSize, h5]) (by rw [h5]; rfl) h1c ?_
          have r1 := setRow_heap V7 k1 _ row _ _ o1
          have rq0 := (setRow_other V7 k1 (w.heap.size) row (Ne.symm hkq0)).trans Qq0
          have rq1 := (setRow_other V7 k1 (w.heap.size + 1) row (Ne.symm hkq1)).trans Qq1
          have B11 := below_setRow C7 (show w.heap.size ≤ k1 by omega) row
          have K11 : Hid (∀ k, V6.heap.size ≤ k → k < X6.heap.size → (V7.setRow k1 row).heap[k]? = X6.heap[k]?) := fun k h1 h2 => (setRow_other V7 k1 k row (by omega)).trans (N10.out k h2)
          have z11 := size_setRow V7 k1 row
          have n11 : X6.heap.size ≤ (V7.setRow k1 row).heap.size := by omega
          generalize V7.setRow k1 row = W11 at r1 rq0 rq1 B11 K11 n11 z11 ⊢
          clear o1 Qq0 Qq1 C7 N10 z11 n10 n9 ou lt1
          have HE : Hid (decideE f l at_ need = ke) := by show decideE f l at_ need = ke; unfold decideE; rw [hpe1, hpe2, hpe3, hke]
          by_cases h0 : ke = 0
          · obtain ⟨S, hS, hKn⟩ := HZ.out h0
            obtain ⟨gf, lb, hform⟩ := hKn.form
            have hgv := hKn.gives gf lb hform W11 (fun k h1 h2 => K11.out k h1 h2) n11
            obtain rfl : row = #[.int .i64 f.rise, .int .i64 f.fall, .int .i64 f.up, .int .i64 f.down, .func (.func gf) #[] lb] := by
              have e := HROW.out.symm.trans hform
              simpa [siV] using e
            subst h0
            have h1 := first3.1 (known_zero hke).2.1
            rw [← hpe1, ← hpe2, ← hpe3] at h1
            have hsp := spotsI_iff.1 h1.1
            have hq := spotE_iff.1 h1.2.1
            have hn2' : 0 ≤ need ∧ need ≤ 1500 := by simpa [heatB, inF] using heatE_iff.1 h1.2.2
            have HR : Hid (decideR f l at_ need = indsF (fun p => decideB f f.ls p at_ need) l l.length) := by show decideR f l at_ need = _; unfold decideR; rw [if_pos HE.out]
            have HG := Lib.hid hgv
            have HD := Lib.hid (fun (W : World) (p : Spt) (hp : spotB p = true) (hb : Below W11.heap.size W11 W) => decides_c f S f.ls gf lb p at_ need W hS hp hq hn2' ((HG.out.later hb).more hb.size))
            unfold siV sV at HD
            have HSP := Lib.hid hsp
            have hll : l.length ≤ 24 := hsp.1
            have zb0 := B11.size
            have HB11 := Lib.hid B11
            clear hgv hKn hform HZ HN HROW K11 hS hpe1 hpe2 hpe3 hke h5 h1c h1 hsp hq hn2' B11
            go_wp2_with fail
            obtain ⟨PB, hPB⟩ : ∃ PB : Spt → Bool, PB = fun p => decideB f f.ls p at_ need := ⟨_, rfl⟩
            rw [← hPB] at HR
            have HPB : Hid (∀ p, decideB f f.ls p at_ need = PB p) := fun p => by rw [hPB]
            clear hPB
            go_loopw [12, 34] (fun v i wr => ∃ j : Nat, j ≤ l.length ∧ i = .int .i64 j ∧ wr.ownsRow W11.heap.size 3 1 v (indsF PB l j).length ((indsF PB l j).map (Value.int .i64)) ∧ Below W11.heap.size W11 wr) (fun _ i _ => l.length - (intOf i).toNat)
            case atStart => exact ⟨0, Nat.zero_le _, rfl, World.ownsRow_nil _ _ _ _, Below.refl _ _⟩
            case round =>
              obtain ⟨j, hj, rfl, hown, hbw⟩ := hrel
              have hbs := hbw.size
              by_cases hlt : j < l.length
              · obtain ⟨b, off, x, rfl, hb, hx0, c0, c1⟩ := H2.out j hlt
                have hx := Lib.hid hx0
                have hb11 : b < W11.heap.size := Nat.lt_of_lt_of_le hb zb0
                have e0 := (hbw.cell (p := ⟨b, off + j * 2, none⟩) hb11).trans ((HB11.out.cell (p := ⟨b, off + j * 2, none⟩) hb).trans c0)
                have e1 := (hbw.cell (p := ⟨b, off + j * 2 + 1, none⟩) hb11).trans ((HB11.out.cell (p := ⟨b, off + j * 2 + 1, none⟩) hb).trans c1)
                have hzb : b < wr.heap.size := Nat.lt_of_lt_of_le hb11 hbs
                have hsx := HSP.out.2 x (List.mem_of_getElem? hx0)
                have hil := inds_len PB l j
                clear hx0 c0 c1
                obtain ⟨W2, hW2⟩ : ∃ W2, W2 = wr.alloc (.cells #[.int .i64 x.foot, .int .i64 x.hour] 26) := ⟨_, rfl⟩
                have b2 : Below wr.heap.size wr W2 := by rw [hW2]; exact below_alloc _ _
                have e2 : W2.heap[wr.heap.size]? = some (.cells #[.int .i64 x.foot, .int .i64 x.hour] 26) := by rw [hW2]; exact heap_alloc_new _ _
                have HW2 := Lib.hid hW2
                clear hW2
                have g0 := Joins.cell_of_block e2 0
                have g1 := Joins.cell_of_block e2 1
                have B2 := below_then hbw b2
                have k1' := (B2.block _ (size_of_block r1)).trans r1
                have a1' := (B2.block _ (size_of_block rq1)).trans rq1
                have s0 := Joins.cell_of_block k1' 0
                have s1 := Joins.cell_of_block k1' 1
                have s2 := Joins.cell_of_block k1' 2
                have s3 := Joins.cell_of_block k1' 3
                have s4 := Joins.cell_of_block k1' 4
                have t0 := Joins.cell_of_block a1' 0
                have t1 := Joins.cell_of_block a1' 1
                have hc := HD.out W2 x hsx B2
                rw [HPB.out x] at hc
                have o2 := own_below hown b2
                have z2 := size_of_block e2
                clear e2 hown hbw b2 k1' a1'
                go_wp2_with (refine wpList_store_rowTo rfl 26 _ _ rfl rfl wr.heap.size #[.int .i64 x.foot, .int .i64 x.hour] rfl rfl 26 _ (heap_alloc_new wr _) (by kernel_rfl) rfl (by kernel_rfl) ?_; rw [World.setRow_alloc_new, ← HW2.out])
                refine hc.mono ?_
                rintro e W5 ⟨rfl, hb5⟩
                have o5 := own_below o2 hb5
                have B5 := below_then B2 hb5
                have n5 := B5.size
                clear hc o2 B2 hb5 g0 g1 e0 e1 s0 s1 s2 s3 s4 t0 t1
                rcases Bool.eq_false_or_eq_true (PB x) with hp | hp
                · have hy := Lib.hid (inds_yes (P := PB) hx.out hp)
                  rw [hp]
                  clear hp
                  go_wp2_with (at_builtin; refine wpList_append_own _ rfl _ _ 27 rfl W11.heap.size 3 i0 (.int .i64 0) 1 8 Tryz.underlying27 HI.out HI0.out HI1.out HI2.out rfl (by decide) _ _ _ rfl (o5.alloc _) ⟨W5.heap.size, 0, none⟩ 1 1 [.int .i64 (j : Int)] rfl rfl (cell_one_new _ _ _) (one_oneCell rfl) ?c3 ?c4 ?c5 ?_)
                  case c3 => unfold maxLen; omega
                  case c4 => omega
                  case c5 => simp; omega
                  intro v' w1 hown' hgrow _
                  have hB1 := below_append B5 (by omega) o5 hgrow
                  clear hgrow o5 B5
                  go_wp2_with fail
                  go_roundw
                  case rel => exact ⟨j + 1, by omega, by go_num, by rw [hy.out]; simpa [Nat.add_assoc] using hown', hB1⟩
                  case measure => simp [intOf]; omega
                · rw [← inds_no (P := PB) hx.out hp] at o5
                  rw [hp]
                  clear hp
                  go_wp2_with fail
                  go_roundw
                  case rel => exact ⟨j + 1, by omega, by go_num, o5, B5⟩
                  case measure => simp [intOf]; omega
              · obtain rfl : j = l.length := by omega
                rw [← HR.out] at hown
                go_wp2_with fail
                refine bodyPost_ret (v := .tuple #[_, .int .i64 0]) ?_ rfl ⟨_, by rw [HE.out], own_weak hown zb0, below_then HB11.out hbw⟩
                simp [results, Tryz.results51, go_sem]
          · have d1 : (ke != 0) = true := by simpa using h0
            have HR : Hid (decideR f l at_ need = []) := by show decideR f l at_ need = _; unfold decideR; rw [HE.out, if_neg h0]
            clear h0 HZ HN HROW K11 hpe1 hpe2 hpe3 hke h5 h1c
            go_wp2_with fail
            refine bodyPost_ret (v := .tuple #[.slice none 0 0, .int .i64 ke]) ?_ rfl ⟨_, by rw [HE.out], by rw [HR.out]; exact World.ownsRow_nil _ _ _ _, B11⟩
            simp [results, Tryz.results51, go_sem]
      · refine wpTr_step rfl rfl fun K hK => ?_
        go_simp
        refine hK _ _ (below_alloc _ _) fun V2 hu2 => ?_
        clear hK K
        have yn := (hu2.block _ (by simp)).trans (heap_alloc_new V1 (.cells #[.int .i64 need] 3))
        have S2 := below_then (below_alloc V1 (.cells #[.int .i64 need] 3)) hu2
        have C2 := below_then C1 S2
        have D2 := below_then D1 S2
        replace ys := (S2.block _ (size_of_block ys)).trans ys
        refine wpTr_step rfl rfl fun K hK => ?_
        go_simp
        refine (checkList_c _ l V2 (HV.out.later C2)).mono ?_
        rintro e X2 ⟨rfl, hx2⟩
        rw [hpe1]
        refine hK _ _ hx2 fun V3 hu3 => ?_
        clear hK K
        have S3 := below_then hx2 hu3
        have C3 := below_then C2 S3
        have D3 := below_then D2 S3
        replace ys := (S3.block _ (size_of_block ys)).trans ys
        replace yn := (S3.block _ (size_of_block yn)).trans yn
        refine wpTr_step rfl rfl fun K hK => ?_
        go_simp
        refine (checkSpots_c _ [at_] V3 (spts1 ys)).mono ?_
        rintro e X3 ⟨rfl, hx3⟩
        rw [show (if [at_].all spotB then (0 : Int) else 1) = spotE at_ by simp [spotE], hpe2]
        refine hK _ _ hx3 fun V4 hu4 => ?_
        clear hK K
        have S4 := below_then hx3 hu4
        have C4 := below_then C3 S4
        have D4 := below_then D3 S4
        replace ys := (S4.block _ (size_of_block ys)).trans ys
        replace yn := (S4.block _ (size_of_block yn)).trans yn
        refine wpTr_step rfl rfl fun K hK => ?_
        go_simp
        refine (checkHeats_c _ [need] V4 (ints1 yn)).mono ?_
        rintro e X4 ⟨rfl, hx4⟩
        rw [show (if [need].all heatB then (0 : Int) else 1) = heatE need by simp [heatE], hpe3]
        refine hK _ _ hx4 fun V5 hu5 => ?_
        clear hK K
        have S5 := below_then hx4 hu5
        have C5 := below_then C4 S5
        have D5 := below_then D4 S5
        replace ys := (S5.block _ (size_of_block ys)).trans ys
        replace yn := (S5.block _ (size_of_block yn)).trans yn
        refine wpTr_step rfl rfl fun K hK => ?_
        go_simp
        refine hK _ _ (below_alloc _ _) fun V6 hu6 => ?_
        clear hK K
        have ye := (hu6.block _ (by simp)).trans (heap_alloc_new V5 (.cells #[.int .i64 pe1, .int .i64 pe2, .int .i64 pe3] 30))
        have S6 := below_then (below_alloc V5 (.cells #[.int .i64 pe1, .int .i64 pe2, .int .i64 pe3] 30)) hu6
        have C6 := below_then C5 S6
        have D6 := below_then D5 S6
        replace ys := (S6.block _ (size_of_block ys)).trans ys
        replace yn := (S6.block _ (size_of_block yn)).trans yn
        refine wpTr_step rfl rfl fun K hK => ?_
        go_simp
        refine (hK' _ [pe1, pe2, pe3] V6 C6 (ints3 ye)).mono ?_
        rintro e X6 ⟨sv, rfl, hz, hn, hx6⟩
        refine hK _ _ hx6 fun V7 hu7 => ?_
        clear hK K
        have S7 := below_then hx6 hu7
        have C7 := below_then C6 S7
        have D7 := below_then D6 S7
        replace ys := (S7.block _ (size_of_block ys)).trans ys
        replace yn := (S7.block _ (size_of_block yn)).trans yn
        replace ye := (S7.block _ (size_of_block ye)).trans ye
        obtain ⟨row, hrow, h5, h1c⟩ := sight_row hz hn
        have N10 : Hid (∀ k, k < X6.heap.size → V7.heap[k]? = X6.heap[k]?) := fun k h => hu7.block k h
        have Qq0 := (D7.block _ zq0).trans q0
        have Qq1 := (D7.block _ zq1).trans q1
        have n10 := hu7.size
        have n9 := hx6.size
        clear ys yn ye C0 C1 C2 C3 C4 C5 C6 D0 D1 D2 D3 D4 D5 D6 D7 S1 S2 S3 S4 S5 S6 S7 hu1 hu2 hu3 hu4 hu5 hu6 hu7 hK' hb0 q0 q1
        have HZ := Lib.hid hz
        have HN := Lib.hid hn
        have HROW := Lib.hid hrow
        clear hz hn
        generalize hke : knownE f [pe1, pe2, pe3] = ke at HZ HN ⊢
        rw [hrow]
        refine wpPure_step (.tuple #[.agg row, .int .i64 ke]) rfl (fun u => rfl) ?_
        refine wpPure_step (.agg row) rfl (fun u => rfl) ?_
        refine wpPure_step (.int .i64 ke) rfl (fun u => rfl) ?_
        intro ks hk hall hH
        obtain ⟨k1, rfl⟩ : ∃ k1, ks = [some k1] := by
          match ks, hk with
          | [none], _ => exact absurd rfl (hall 0)
          | [some k1], _ => exact ⟨k1, rfl⟩
        obtain ⟨o1, ge1, lt1⟩ := hH.obj 0 k1 rfl
        have ou := hH.out 0 k1 rfl (V6.heap.size, X6.heap.size) (by simp)
        rw [show ([Obj.cells #[.int .i64 0, .int .i64 0, .int .i64 0, .int .i64 0, .nilFunc] 114])[0]? = some (.cells #[.int .i64 0, .int .i64 0, .int .i64 0, .int .i64 0, .nilFunc] 114) from rfl] at o1
        rw [QS.out] at ge1
        clear hH hall hk
        have hkq0 : k1 ≠ w.heap.size := by omega
        have hkq1 : k1 ≠ w.heap.size + 1 := by omega
        show wpList _ _ _ _ _ _
        simp only [deco, ptrV]
        refine wpList_store_rowTo rfl 114 _ _ rfl rfl k1 row rfl rfl 114 _ o1 (by rw [Tryz.zSightSize, h5]) (by rw [h5]; rfl) h1c ?_
        have r1 := setRow_heap V7 k1 _ row _ _ o1
        have rq0 := (setRow_other V7 k1 (w.heap.size) row (Ne.symm hkq0)).trans Qq0
        have rq1 := (setRow_other V7 k1 (w.heap.size + 1) row (Ne.symm hkq1)).trans Qq1
        have B11 := below_setRow C7 (show w.heap.size ≤ k1 by omega) row
        have K11 : Hid (∀ k, V6.heap.size ≤ k → k < X6.heap.size → (V7.setRow k1 row).heap[k]? = X6.heap[k]?) := fun k h1 h2 => (setRow_other V7 k1 k row (by omega)).trans (N10.out k h2)
        have z11 := size_setRow V7 k1 row
        have n11 : X6.heap.size ≤ (V7.setRow k1 row).heap.size := by omega
        generalize V7.setRow k1 row = W11 at r1 rq0 rq1 B11 K11 n11 z11 ⊢
        clear o1 Qq0 Qq1 C7 N10 z11 n10 n9 ou lt1
        have HE : Hid (decideE f l at_ need = ke) := by show decideE f l at_ need = ke; unfold decideE; rw [hpe1, hpe2, hpe3, hke]
        by_cases h0 : ke = 0
        · obtain ⟨S, hS, hKn⟩ := HZ.out h0
          obtain ⟨gf, lb, hform⟩ := hKn.form
          have hgv := hKn.gives gf lb hform W11 (fun k h1 h2 => K11.out k h1 h2) n11
          obtain rfl : row = #[.int .i64 f.rise, .int .i64 f.fall, .int .i64 f.up, .int .i64 f.down, .func (.func gf) #[] lb] := by
            have e := HROW.out.symm.trans hform
            simpa [siV] using e
          subst h0
          have h1 := first3.1 (known_zero hke).2.1
          rw [← hpe1, ← hpe2, ← hpe3] at h1
          have hsp := spotsI_iff.1 h1.1
          have hq := spotE_iff.1 h1.2.1
          have hn2' : 0 ≤ need ∧ need ≤ 1500 := by simpa [heatB, inF] using heatE_iff.1 h1.2.2
          have HR : Hid (decideR f l at_ need = indsF (fun p => decideB f f.ls p at_ need) l l.length) := by show decideR f l at_ need = _; unfold decideR; rw [if_pos HE.out]
          have HG := Lib.hid hgv
          have HD := Lib.hid (fun (W : World) (p : Spt) (hp : spotB p = true) (hb : Below W11.heap.size W11 W) => decides_c f S f.ls gf lb p at_ need W hS hp hq hn2' ((HG.out.later hb).more hb.size))
          unfold siV sV at HD
          have HSP := Lib.hid hsp
          have hll : l.length ≤ 24 := hsp.1
          have zb0 := B11.size
          have HB11 := Lib.hid B11
          clear hgv hKn hform HZ HN HROW K11 hS hpe1 hpe2 hpe3 hke h5 h1c h1 hsp hq hn2' B11
          go_wp2_with fail
          obtain ⟨PB, hPB⟩ : ∃ PB : Spt → Bool, PB = fun p => decideB f f.ls p at_ need := ⟨_, rfl⟩
          rw [← hPB] at HR
          have HPB : Hid (∀ p, decideB f f.ls p at_ need = PB p) := fun p => by rw [hPB]
          clear hPB
          go_loopw [12, 34] (fun v i wr => ∃ j : Nat, j ≤ l.length ∧ i = .int .i64 j ∧ wr.ownsRow W11.heap.size 3 1 v (indsF PB l j).length ((indsF PB l j).map (Value.int .i64)) ∧ Below W11.heap.size W11 wr) (fun _ i _ => l.length - (intOf i).toNat)
          case atStart => exact ⟨0, Nat.zero_le _, rfl, World.ownsRow_nil _ _ _ _, Below.refl _ _⟩
          case round =>
            obtain ⟨j, hj, rfl, hown, hbw⟩ := hrel
            have hbs := hbw.size
            by_cases hlt : j < l.length
            · obtain ⟨b, off, x, rfl, hb, hx0, c0, c1⟩ := H2.out j hlt
              have hx := Lib.hid hx0
              have hb11 : b < W11.heap.size := Nat.lt_of_lt_of_le hb zb0
              have e0 := (hbw.cell (p := ⟨b, off + j * 2, none⟩) hb11).trans ((HB11.out.cell (p := ⟨b, off + j * 2, none⟩) hb).trans c0)
              have e1 := (hbw.cell (p := ⟨b, off + j * 2 + 1, none⟩) hb11).trans ((HB11.out.cell (p := ⟨b, off + j * 2 + 1, none⟩) hb).trans c1)
              have hzb : b < wr.heap.size := Nat.lt_of_lt_of_le hb11 hbs
              have hsx := HSP.out.2 x (List.mem_of_getElem? hx0)
              have hil := inds_len PB l j
              clear hx0 c0 c1
              obtain ⟨W2, hW2⟩ : ∃ W2, W2 = wr.alloc (.cells #[.int .i64 x.foot, .int .i64 x.hour] 26) := ⟨_, rfl⟩
              have b2 : Below wr.heap.size wr W2 := by rw [hW2]; exact below_alloc _ _
              have e2 : W2.heap[wr.heap.size]? = some (.cells #[.int .i64 x.foot, .int .i64 x.hour] 26) := by rw [hW2]; exact heap_alloc_new _ _
              have HW2 := Lib.hid hW2
              clear hW2
              have g0 := Joins.cell_of_block e2 0
              have g1 := Joins.cell_of_block e2 1
              have B2 := below_then hbw b2
              have k1' := (B2.block _ (size_of_block r1)).trans r1
              have a1' := (B2.block _ (size_of_block rq1)).trans rq1
              have s0 := Joins.cell_of_block k1' 0
              have s1 := Joins.cell_of_block k1' 1
              have s2 := Joins.cell_of_block k1' 2
              have s3 := Joins.cell_of_block k1' 3
              have s4 := Joins.cell_of_block k1' 4
              have t0 := Joins.cell_of_block a1' 0
              have t1 := Joins.cell_of_block a1' 1
              have hc := HD.out W2 x hsx B2
              rw [HPB.out x] at hc
              have o2 := own_below hown b2
              have z2 := size_of_block e2
              clear e2 hown hbw b2 k1' a1'
              go_wp2_with (refine wpList_store_rowTo rfl 26 _ _ rfl rfl wr.heap.size #[.int .i64 x.foot, .int .i64 x.hour] rfl rfl 26 _ (heap_alloc_new wr _) (by kernel_rfl) rfl (by kernel_rfl) ?_; rw [World.setRow_alloc_new, ← HW2.out])
              refine hc.mono ?_
              rintro e W5 ⟨rfl, hb5⟩
              have o5 := own_below o2 hb5
              have B5 := below_then B2 hb5
              have n5 := B5.size
              clear hc o2 B2 hb5 g0 g1 e0 e1 s0 s1 s2 s3 s4 t0 t1
              rcases Bool.eq_false_or_eq_true (PB x) with hp | hp
              · have hy := Lib.hid (inds_yes (P := PB) hx.out hp)
                rw [hp]
                clear hp
                go_wp2_with (at_builtin; refine wpList_append_own _ rfl _ _ 27 rfl W11.heap.size 3 i0 (.int .i64 0) 1 8 Tryz.underlying27 HI.out HI0.out HI1.out HI2.out rfl (by decide) _ _ _ rfl (o5.alloc _) ⟨W5.heap.size, 0, none⟩ 1 1 [.int .i64 (j : Int)] rfl rfl (cell_one_new _ _ _) (one_oneCell rfl) ?c3 ?c4 ?c5 ?_)
                case c3 => unfold maxLen; omega
                case c4 => omega
                case c5 => simp; omega
                intro v' w1 hown' hgrow _
                have hB1 := below_append B5 (by omega) o5 hgrow
                clear hgrow o5 B5
                go_wp2_with fail
                go_roundw
                case rel => exact ⟨j + 1, by omega, by go_num, by rw [hy.out]; simpa [Nat.add_assoc] using hown', hB1⟩
                case measure => simp [intOf]; omega
              · rw [← inds_no (P := PB) hx.out hp] at o5
                rw [hp]
                clear hp
                go_wp2_with fail
                go_roundw
                case rel => exact ⟨j + 1, by omega, by go_num, o5, B5⟩
                case measure => simp [intOf]; omega
            · obtain rfl : j = l.length := by omega
              rw [← HR.out] at hown
              go_wp2_with fail
              refine bodyPost_ret (v := .tuple #[_, .int .i64 0]) ?_ rfl ⟨_, by rw [HE.out], own_weak hown zb0, below_then HB11.out hbw⟩
              simp [results, Tryz.results51, go_sem]
        · have d1 : (ke != 0) = true := by simpa using h0
          have HR : Hid (decideR f l at_ need = []) := by show decideR f l at_ need = _; unfold decideR; rw [HE.out, if_neg h0]
          clear h0 HZ HN HROW K11 hpe1 hpe2 hpe3 hke h5 h1c
          go_wp2_with fail
          refine bodyPost_ret (v := .tuple #[.slice none 0 0, .int .i64 ke]) ?_ rfl ⟨_, by rw [HE.out], by rw [HR.out]; exact World.ownsRow_nil _ _ _ _, B11⟩
          simp [results, Tryz.results51, go_sem]
    · refine wpTr_step rfl rfl fun K hK => ?_
      go_simp
      refine hK _ _ (below_alloc _ _) fun V1 hu1 => ?_
      clear hK K
      have yn := (hu1.block _ (by simp)).trans (heap_alloc_new V0 (.cells #[.int .i64 need] 3))
      have S1 := below_then (below_alloc V0 (.cells #[.int .i64 need] 3)) hu1
      have C1 := below_then C0 S1
      have D1 := below_then D0 S1
      refine wpTr_alt ?_ ?_
      · refine wpTr_step rfl rfl fun K hK => ?_
        go_simp
        refine (checkList_c _ l V1 (HV.out.later C1)).mono ?_
        rintro e X1 ⟨rfl, hx1⟩
        rw [hpe1]
        refine hK _ _ hx1 fun V2 hu2 => ?_
        clear hK K
        have S2 := below_then hx1 hu2
        have C2 := below_then C1 S2
        have D2 := below_then D1 S2
        replace yn := (S2.block _ (size_of_block yn)).trans yn
        refine wpTr_step rfl rfl fun K hK => ?_
        go_simp
        refine hK _ _ (below_alloc _ _) fun V3 hu3 => ?_
        clear hK K
        have ys := (hu3.block _ (by simp)).trans (heap_alloc_new V2 (.cells #[.int .i64 at_.foot, .int .i64 at_.hour] 26))
        have S3 := below_then (below_alloc V2 (.cells #[.int .i64 at_.foot, .int .i64 at_.hour] 26)) hu3
        have C3 := below_then C2 S3
        have D3 := below_then D2 S3
        replace yn := (S3.block _ (size_of_block yn)).trans yn
        refine wpTr_step rfl rfl fun K hK => ?_
        go_simp
        refine (checkSpots_c _ [at_] V3 (spts1 ys)).mono ?_
        rintro e X3 ⟨rfl, hx3⟩
        rw [show (if [at_].all spotB then (0 : Int) else 1) = spotE at_ by simp [spotE], hpe2]
        refine hK _ _ hx3 fun V4 hu4 => ?_
        clear hK K
        have S4 := below_then hx3 hu4
        have C4 := below_then C3 S4
        have D4 := below_then D3 S4
        replace yn := (S4.block _ (size_of_block yn)).trans yn
        replace ys := (S4.block _ (size_of_block ys)).trans ys
        refine wpTr_step rfl rfl fun K hK => ?_
        go_simp
        refine (checkHeats_c _ [need] V4 (ints1 yn)).mono ?_
        rintro e X4 ⟨rfl, hx4⟩
        rw [show (if [need].all heatB then (0 : Int) else 1) = heatE need by simp [heatE], hpe3]
        refine hK _ _ hx4 fun V5 hu5 => ?_
        clear hK K
        have S5 := below_then hx4 hu5
        have C5 := below_then C4 S5
        have D5 := below_then D4 S5
        replace yn := (S5.block _ (size_of_block yn)).trans yn
        replace ys := (S5.block _ (size_of_block ys)).trans ys
        refine wpTr_step rfl rfl fun K hK => ?_
        go_simp
        refine hK _ _ (below_alloc _ _) fun V6 hu6 => ?_
        clear hK K
        have ye := (hu6.block _ (by simp)).trans (heap_alloc_new V5 (.cells #[.int .i64 pe1, .int .i64 pe2, .int .i64 pe3] 30))
        have S6 := below_then (below_alloc V5 (.cells #[.int .i64 pe1, .int .i64 pe2, .int .i64 pe3] 30)) hu6
        have C6 := below_then C5 S6
        have D6 := below_then D5 S6
        replace yn := (S6.block _ (size_of_block yn)).trans yn
        replace ys := (S6.block _ (size_of_block ys)).trans ys
        refine wpTr_step rfl rfl fun K hK => ?_
        go_simp
        refine (hK' _ [pe1, pe2, pe3] V6 C6 (ints3 ye)).mono ?_
        rintro e X6 ⟨sv, rfl, hz, hn, hx6⟩
        refine hK _ _ hx6 fun V7 hu7 => ?_
        clear hK K
        have S7 := below_then hx6 hu7
        have C7 := below_then C6 S7
        have D7 := below_then D6 S7
        replace yn := (S7.block _ (size_of_block yn)).trans yn
        replace ys := (S7.block _ (size_of_block ys)).trans ys
        replace ye := (S7.block _ (size_of_block ye)).trans ye
        obtain ⟨row, hrow, h5, h1c⟩ := sight_row hz hn
        have N10 : Hid (∀ k, k < X6.heap.size → V7.heap[k]? = X6.heap[k]?) := fun k h => hu7.block k h
        have Qq0 := (D7.block _ zq0).trans q0
        have Qq1 := (D7.block _ zq1).trans q1
        have n10 := hu7.size
        have n9 := hx6.size
        clear yn ys ye C0 C1 C2 C3 C4 C5 C6 D0 D1 D2 D3 D4 D5 D6 D7 S1 S2 S3 S4 S5 S6 S7 hu1 hu2 hu3 hu4 hu5 hu6 hu7 hK' hb0 q0 q1
        have HZ := Lib.hid hz
        have HN := Lib.hid hn
        have HROW := Lib.hid hrow
        clear hz hn
        generalize hke : knownE f [pe1, pe2, pe3] = ke at HZ HN ⊢
        rw [hrow]
        refine wpPure_step (.tuple #[.agg row, .int .i64 ke]) rfl (fun u => rfl) ?_
        refine wpPure_step (.agg row) rfl (fun u => rfl) ?_
        refine wpPure_step (.int .i64 ke) rfl (fun u => rfl) ?_
        intro ks hk hall hH
        obtain ⟨k1, rfl⟩ : ∃ k1, ks = [some k1] := by
          match ks, hk with
          | [none], _ => exact absurd rfl (hall 0)
          | [some k1], _ => exact ⟨k1, rfl⟩
        obtain ⟨o1, ge1, lt1⟩ := hH.obj 0 k1 rfl
        have ou := hH.out 0 k1 rfl (V6.heap.size, X6.heap.size) (by simp)
        rw [show ([Obj.cells #[.int .i64 0, .int .i64 0, .int .i64 0, .int .i64 0, .nilFunc] 114])[0]? = some (.cells #[.int .i64 0, .int .i64 0, .int .i64 0, .int .i64 0, .nilFunc] 114) from rfl] at o1
        rw [QS.out] at ge1
        clear hH hall hk
        have hkq0 : k1 ≠ w.heap.size := by omega
        have hkq1 : k1 ≠ w.heap.size + 1 := by omega
        show wpList _ _ _ _ _ _
        simp only [deco, ptrV]
        refine wpList_store_rowTo rfl 114 _ _ rfl rfl k1 row rfl rfl 114 _ o1 (by rw [Tryz.zSightSize, h5]) (by rw [h5]; rfl) h1c ?_
        have r1 := setRow_heap V7 k1 _ row _ _ o1
        have rq0 := (setRow_other V7 k1 (w.heap.size) row (Ne.symm hkq0)).trans Qq0
        have rq1 := (setRow_other V7 k1 (w.heap.size + 1) row (Ne.symm hkq1)).trans Qq1
        have B11 := below_setRow C7 (show w.heap.size ≤ k1 by omega) row
        have K11 : Hid (∀ k, V6.heap.size ≤ k → k < X6.heap.size → (V7.setRow k1 row).heap[k]? = X6.heap[k]?) := fun k h1 h2 => (setRow_other V7 k1 k row (by omega)).trans (N10.out k h2)
        have z11 := size_setRow V7 k1 row
        have n11 : X6.heap.size ≤ (V7.setRow k1 row).heap.size := by omega
        generalize V7.setRow k1 row = W11 at r1 rq0 rq1 B11 K11 n11 z11 ⊢
        clear o1 Qq0 Qq1 C7 N10 z11 n10 n9 ou lt1
        have HE : Hid (decideE f l at_ need = ke) := by show decideE f l at_ need = ke; unfold decideE; rw [hpe1, hpe2, hpe3, hke]
        by_cases h0 : ke = 0
        · obtain ⟨S, hS, hKn⟩ := HZ.out h0
          obtain ⟨gf, lb, hform⟩ := hKn.form
          have hgv := hKn.gives gf lb hform W11 (fun k h1 h2 => K11.out k h1 h2) n11
          obtain rfl : row = #[.int .i64 f.rise, .int .i64 f.fall, .int .i64 f.up, .int .i64 f.down, .func (.func gf) #[] lb] := by
            have e := HROW.out.symm.trans hform
            simpa [siV] using e
          subst h0
          have h1 := first3.1 (known_zero hke).2.1
          rw [← hpe1, ← hpe2, ← hpe3] at h1
          have hsp := spotsI_iff.1 h1.1
          have hq := spotE_iff.1 h1.2.1
          have hn2' : 0 ≤ need ∧ need ≤ 1500 := by simpa [heatB, inF] using heatE_iff.1 h1.2.2
          have HR : Hid (decideR f l at_ need = indsF (fun p => decideB f f.ls p at_ need) l l.length) := by show decideR f l at_ need = _; unfold decideR; rw [if_pos HE.out]
          have HG := Lib.hid hgv
          have HD := Lib.hid (fun (W : World) (p : Spt) (hp : spotB p = true) (hb : Below W11.heap.size W11 W) => decides_c f S f.ls gf lb p at_ need W hS hp hq hn2' ((HG.out.later hb).more hb.size))
          unfold siV sV at HD
          have HSP := Lib.hid hsp
          have hll : l.length ≤ 24 := hsp.1
          have zb0 := B11.size
          have HB11 := Lib.hid B11
          clear hgv hKn hform HZ HN HROW K11 hS hpe1 hpe2 hpe3 hke h5 h1c h1 hsp hq hn2' B11
          go_wp2_with fail
          obtain ⟨PB, hPB⟩ : ∃ PB : Spt → Bool, PB = fun p => decideB f f.ls p at_ need := ⟨_, rfl⟩
          rw [← hPB] at HR
          have HPB : Hid (∀ p, decideB f f.ls p at_ need = PB p) := fun p => by rw [hPB]
          clear hPB
          go_loopw [12, 34] (fun v i wr => ∃ j : Nat, j ≤ l.length ∧ i = .int .i64 j ∧ wr.ownsRow W11.heap.size 3 1 v (indsF PB l j).length ((indsF PB l j).map (Value.int .i64)) ∧ Below W11.heap.size W11 wr) (fun _ i _ => l.length - (intOf i).toNat)
          case atStart => exact ⟨0, Nat.zero_le _, rfl, World.ownsRow_nil _ _ _ _, Below.refl _ _⟩
          case round =>
            obtain ⟨j, hj, rfl, hown, hbw⟩ := hrel
            have hbs := hbw.size
            by_cases hlt : j < l.length
            · obtain ⟨b, off, x, rfl, hb, hx0, c0, c1⟩ := H2.out j hlt
              have hx := Lib.hid hx0
              have hb11 : b < W11.heap.size := Nat.lt_of_lt_of_le hb zb0
              have e0 := (hbw.cell (p := ⟨b, off + j * 2, none⟩) hb11).trans ((HB11.out.cell (p := ⟨b, off + j * 2, none⟩) hb).trans c0)
              have e1 := (hbw.cell (p := ⟨b, off + j * 2 + 1, none⟩) hb11).trans ((HB11.out.cell (p := ⟨b, off + j * 2 + 1, none⟩) hb).trans c1)
              have hzb : b < wr.heap.size := Nat.lt_of_lt_of_le hb11 hbs
              have hsx := HSP.out.2 x (List.mem_of_getElem? hx0)
              have hil := inds_len PB l j
              clear hx0 c0 c1
              obtain ⟨W2, hW2⟩ : ∃ W2, W2 = wr.alloc (.cells #[.int .i64 x.foot, .int .i64 x.hour] 26) := ⟨_, rfl⟩
              have b2 : Below wr.heap.size wr W2 := by rw [hW2]; exact below_alloc _ _
              have e2 : W2.heap[wr.heap.size]? = some (.cells #[.int .i64 x.foot, .int .i64 x.hour] 26) := by rw [hW2]; exact heap_alloc_new _ _
              have HW2 := Lib.hid hW2
              clear hW2
              have g0 := Joins.cell_of_block e2 0
              have g1 := Joins.cell_of_block e2 1
              have B2 := below_then hbw b2
              have k1' := (B2.block _ (size_of_block r1)).trans r1
              have a1' := (B2.block _ (size_of_block rq1)).trans rq1
              have s0 := Joins.cell_of_block k1' 0
              have s1 := Joins.cell_of_block k1' 1
              have s2 := Joins.cell_of_block k1' 2
              have s3 := Joins.cell_of_block k1' 3
              have s4 := Joins.cell_of_block k1' 4
              have t0 := Joins.cell_of_block a1' 0
              have t1 := Joins.cell_of_block a1' 1
              have hc := HD.out W2 x hsx B2
              rw [HPB.out x] at hc
              have o2 := own_below hown b2
              have z2 := size_of_block e2
              clear e2 hown hbw b2 k1' a1'
              go_wp2_with (refine wpList_store_rowTo rfl 26 _ _ rfl rfl wr.heap.size #[.int .i64 x.foot, .int .i64 x.hour] rfl rfl 26 _ (heap_alloc_new wr _) (by kernel_rfl) rfl (by kernel_rfl) ?_; rw [World.setRow_alloc_new, ← HW2.out])
              refine hc.mono ?_
              rintro e W5 ⟨rfl, hb5⟩
              have o5 := own_below o2 hb5
              have B5 := below_then B2 hb5
              have n5 := B5.size
              clear hc o2 B2 hb5 g0 g1 e0 e1 s0 s1 s2 s3 s4 t0 t1
              rcases Bool.eq_false_or_eq_true (PB x) with hp | hp
              · have hy := Lib.hid (inds_yes (P := PB) hx.out hp)
                rw [hp]
                clear hp
                go_wp2_with (at_builtin; refine wpList_append_own _ rfl _ _ 27 rfl W11.heap.size 3 i0 (.int .i64 0) 1 8 Tryz.underlying27 HI.out HI0.out HI1.out HI2.out rfl (by decide) _ _ _ rfl (o5.alloc _) ⟨W5.heap.size, 0, none⟩ 1 1 [.int .i64 (j : Int)] rfl rfl (cell_one_new _ _ _) (one_oneCell rfl) ?c3 ?c4 ?c5 ?_)
                case c3 => unfold maxLen; omega
                case c4 => omega
                case c5 => simp; omega
                intro v' w1 hown' hgrow _
                have hB1 := below_append B5 (by omega) o5 hgrow
                clear hgrow o5 B5
                go_wp2_with fail
                go_roundw
                case rel => exact ⟨j + 1, by omega, by go_num, by rw [hy.out]; simpa [Nat.add_assoc] using hown', hB1⟩
                case measure => simp [intOf]; omega
              · rw [← inds_no (P := PB) hx.out hp] at o5
                rw [hp]
                clear hp
                go_wp2_with fail
                go_roundw
                case rel => exact ⟨j + 1, by omega, by go_num, o5, B5⟩
                case measure => simp [intOf]; omega
            · obtain rfl : j = l.length := by omega
              rw [← HR.out] at hown
              go_wp2_with fail
              refine bodyPost_ret (v := .tuple #[_, .int .i64 0]) ?_ rfl ⟨_, by rw [HE.out], own_weak hown zb0, below_then HB11.out hbw⟩
              simp [results, Tryz.results51, go_sem]
        · have d1 : (ke != 0) = true := by simpa using h0
          have HR : Hid (decideR f l at_ need = []) := by show decideR f l at_ need = _; unfold decideR; rw [HE.out, if_neg h0]
          clear h0 HZ HN HROW K11 hpe1 hpe2 hpe3 hke h5 h1c
          go_wp2_with fail
          refine bodyPost_ret (v := .tuple #[.slice none 0 0, .int .i64 ke]) ?_ rfl ⟨_, by rw [HE.out], by rw [HR.out]; exact World.ownsRow_nil _ _ _ _, B11⟩
          simp [results, Tryz.results51, go_sem]
      · refine wpTr_step rfl rfl fun K hK => ?_
        go_simp
        refine hK _ _ (below_alloc _ _) fun V2 hu2 => ?_
        clear hK K
        have ys := (hu2.block _ (by simp)).trans (heap_alloc_new V1 (.cells #[.int .i64 at_.foot, .int .i64 at_.hour] 26))
        have S2 := below_then (below_alloc V1 (.cells #[.int .i64 at_.foot, .int .i64 at_.hour] 26)) hu2
        have C2 := below_then C1 S2
        have D2 := below_then D1 S2
        replace yn := (S2.block _ (size_of_block yn)).trans yn
        refine wpTr_step rfl rfl fun K hK => ?_
        go_simp
        refine (checkList_c _ l V2 (HV.out.later C2)).mono ?_
        rintro e X2 ⟨rfl, hx2⟩
        rw [hpe1]
        refine hK _ _ hx2 fun V3 hu3 => ?_
        clear hK K
        have S3 := below_then hx2 hu3
        have C3 := below_then C2 S3
        have D3 := below_then D2 S3
        replace yn := (S3.block _ (size_of_block yn)).trans yn
        replace ys := (S3.block _ (size_of_block ys)).trans ys
        refine wpTr_step rfl rfl fun K hK => ?_
        go_simp
        refine (checkSpots_c _ [at_] V3 (spts1 ys)).mono ?_
        rintro e X3 ⟨rfl, hx3⟩
        rw [show (if [at_].all spotB then (0 : Int) else 1) = spotE at_ by simp [spotE], hpe2]
        refine hK _ _ hx3 fun V4 hu4 => ?_
        clear hK K
        have S4 := below_then hx3 hu4
        have C4 := below_then C3 S4
        have D4 := below_then D3 S4
        replace yn := (S4.block _ (size_of_block yn)).trans yn
        replace ys := (S4.block _ (size_of_block ys)).trans ys
        refine wpTr_step rfl rfl fun K hK => ?_
        go_simp
        refine (checkHeats_c _ [need] V4 (ints1 yn)).mono ?_
        rintro e X4 ⟨rfl, hx4⟩
        rw [show (if [need].all heatB then (0 : Int) else 1) = heatE need by simp [heatE], hpe3]
        refine hK _ _ hx4 fun V5 hu5 => ?_
        clear hK K
        have S5 := below_then hx4 hu5
        have C5 := below_then C4 S5
        have D5 := below_then D4 S5
        replace yn := (S5.block _ (size_of_block yn)).trans yn
        replace ys := (S5.block _ (size_of_block ys)).trans ys
        refine wpTr_step rfl rfl fun K hK => ?_
        go_simp
        refine hK _ _ (below_alloc _ _) fun V6 hu6 => ?_
        clear hK K
        have ye := (hu6.block _ (by simp)).trans (heap_alloc_new V5 (.cells #[.int .i64 pe1, .int .i64 pe2, .int .i64 pe3] 30))
        have S6 := below_then (below_alloc V5 (.cells #[.int .i64 pe1, .int .i64 pe2, .int .i64 pe3] 30)) hu6
        have C6 := below_then C5 S6
        have D6 := below_then D5 S6
        replace yn := (S6.block _ (size_of_block yn)).trans yn
        replace ys := (S6.block _ (size_of_block ys)).trans ys
        refine wpTr_step rfl rfl fun K hK => ?_
        go_simp
        refine (hK' _ [pe1, pe2, pe3] V6 C6 (ints3 ye)).mono ?_
        rintro e X6 ⟨sv, rfl, hz, hn, hx6⟩
        refine hK _ _ hx6 fun V7 hu7 => ?_
        clear hK K
        have S7 := below_then hx6 hu7
        have C7 := below_then C6 S7
        have D7 := below_then D6 S7
        replace yn := (S7.block _ (size_of_block yn)).trans yn
        replace ys := (S7.block _ (size_of_block ys)).trans ys
        replace ye := (S7.block _ (size_of_block ye)).trans ye
        obtain ⟨row, hrow, h5, h1c⟩ := sight_row hz hn
        have N10 : Hid (∀ k, k < X6.heap.size → V7.heap[k]? = X6.heap[k]?) := fun k h => hu7.block k h
        have Qq0 := (D7.block _ zq0).trans q0
        have Qq1 := (D7.block _ zq1).trans q1
        have n10 := hu7.size
        have n9 := hx6.size
        clear yn ys ye C0 C1 C2 C3 C4 C5 C6 D0 D1 D2 D3 D4 D5 D6 D7 S1 S2 S3 S4 S5 S6 S7 hu1 hu2 hu3 hu4 hu5 hu6 hu7 hK' hb0 q0 q1
        have HZ := Lib.hid hz
        have HN := Lib.hid hn
        have HROW := Lib.hid hrow
        clear hz hn
        generalize hke : knownE f [pe1, pe2, pe3] = ke at HZ HN ⊢
        rw [hrow]
        refine wpPure_step (.tuple #[.agg row, .int .i64 ke]) rfl (fun u => rfl) ?_
        refine wpPure_step (.agg row) rfl (fun u => rfl) ?_
        refine wpPure_step (.int .i64 ke) rfl (fun u => rfl) ?_
        intro ks hk hall hH
        obtain ⟨k1, rfl⟩ : ∃ k1, ks = [some k1] := by
          match ks, hk with
          | [none], _ => exact absurd rfl (hall 0)
          | [some k1], _ => exact ⟨k1, rfl⟩
        obtain ⟨o1, ge1, lt1⟩ := hH.obj 0 k1 rfl
        have ou := hH.out 0 k1 rfl (V6.heap.size, X6.heap.size) (by simp)
        rw [show ([Obj.cells #[.int .i64 0, .int .i64 0, .int .i64 0, .int .i64 0, .nilFunc] 114])[0]? = some (.cells #[.int .i64 0, .int .i64 0, .int .i64 0, .int .i64 0, .nilFunc] 114) from rfl] at o1
        rw [QS.out] at ge1
        clear hH hall hk
        have hkq0 : k1 ≠ w.heap.size := by omega
        have hkq1 : k1 ≠ w.heap.size + 1 := by omega
        show wpList _ _ _ _ _ _
        simp only [deco, ptrV]
        refine wpList_store_rowTo rfl 114 _ _ rfl rfl k1 row rfl rfl 114 _ o1 (by rw [Tryz.zSightSize, h5]) (by rw [h5]; rfl) h1c ?_
        have r1 := setRow_heap V7 k1 _ row _ _ o1
        have rq0 := (setRow_other V7 k1 (w.heap.size) row (Ne.symm hkq0)).trans Qq0
        have rq1 := (setRow_other V7 k1 (w.heap.size + 1) row (Ne.symm hkq1)).trans Qq1
        have B11 := below_setRow C7 (show w.heap.size ≤ k1 by omega) row
        have K11 : Hid (∀ k, V6.heap.size ≤ k → k < X6.heap.size → (V7.setRow k1 row).heap[k]? = X6.heap[k]?) := fun k h1 h2 => (setRow_other V7 k1 k row (by omega)).trans (N10.out k h2)
        have z11 := size_setRow V7 k1 row
        have n11 : X6.heap.size ≤ (V7.setRow k1 row).heap.size := by omega
        generalize V7.setRow k1 row = W11 at r1 rq0 rq1 B11 K11 n11 z11 ⊢
        clear o1 Qq0 Qq1 C7 N10 z11 n10 n9 ou lt1
        have HE : Hid (decideE f l at_ need = ke) := by show decideE f l at_ need = ke; unfold decideE; rw [hpe1, hpe2, hpe3, hke]
        by_cases h0 : ke = 0
        · obtain ⟨S, hS, hKn⟩ := HZ.out h0
          obtain ⟨gf, lb, hform⟩ := hKn.form
          have hgv := hKn.gives gf lb hform W11 (fun k h1 h2 => K11.out k h1 h2) n11
          obtain rfl : row = #[.int .i64 f.rise, .int .i64 f.fall, .int .i64 f.up, .int .i64 f.down, .func (.func gf) #[] lb] := by
            have e := HROW.out.symm.trans hform
            simpa [siV] using e
          subst h0
          have h1 := first3.1 (known_zero hke).2.1
          rw [← hpe1, ← hpe2, ← hpe3] at h1
          have hsp := spotsI_iff.1 h1.1
          have hq := spotE_iff.1 h1.2.1
          have hn2' : 0 ≤ need ∧ need ≤ 1500 := by simpa [heatB, inF] using heatE_iff.1 h1.2.2
          have HR : Hid (decideR f l at_ need = indsF (fun p => decideB f f.ls p at_ need) l l.length) := by show decideR f l at_ need = _; unfold decideR; rw [if_pos HE.out]
          have HG := Lib.hid hgv
          have HD := Lib.hid (fun (W : World) (p : Spt) (hp : spotB p = true) (hb : Below W11.heap.size W11 W) => decides_c f S f.ls gf lb p at_ need W hS hp hq hn2' ((HG.out.later hb).more hb.size))
          unfold siV sV at HD
          have HSP := Lib.hid hsp
          have hll : l.length ≤ 24 := hsp.1
          have zb0 := B11.size
          have HB11 := Lib.hid B11
          clear hgv hKn hform HZ HN HROW K11 hS hpe1 hpe2 hpe3 hke h5 h1c h1 hsp hq hn2' B11
          go_wp2_with fail
          obtain ⟨PB, hPB⟩ : ∃ PB : Spt → Bool, PB = fun p => decideB f f.ls p at_ need := ⟨_, rfl⟩
          rw [← hPB] at HR
          have HPB : Hid (∀ p, decideB f f.ls p at_ need = PB p) := fun p => by rw [hPB]
          clear hPB
          go_loopw [12, 34] (fun v i wr => ∃ j : Nat, j ≤ l.length ∧ i = .int .i64 j ∧ wr.ownsRow W11.heap.size 3 1 v (indsF PB l j).length ((indsF PB l j).map (Value.int .i64)) ∧ Below W11.heap.size W11 wr) (fun _ i _ => l.length - (intOf i).toNat)
          case atStart => exact ⟨0, Nat.zero_le _, rfl, World.ownsRow_nil _ _ _ _, Below.refl _ _⟩
          case round =>
            obtain ⟨j, hj, rfl, hown, hbw⟩ := hrel
            have hbs := hbw.size
            by_cases hlt : j < l.length
            · obtain ⟨b, off, x, rfl, hb, hx0, c0, c1⟩ := H2.out j hlt
              have hx := Lib.hid hx0
              have hb11 : b < W11.heap.size := Nat.lt_of_lt_of_le hb zb0
              have e0 := (hbw.cell (p := ⟨b, off + j * 2, none⟩) hb11).trans ((HB11.out.cell (p := ⟨b, off + j * 2, none⟩) hb).trans c0)
              have e1 := (hbw.cell (p := ⟨b, off + j * 2 + 1, none⟩) hb11).trans ((HB11.out.cell (p := ⟨b, off + j * 2 + 1, none⟩) hb).trans c1)
              have hzb : b < wr.heap.size := Nat.lt_of_lt_of_le hb11 hbs
              have hsx := HSP.out.2 x (List.mem_of_getElem? hx0)
              have hil := inds_len PB l j
              clear hx0 c0 c1
              obtain ⟨W2, hW2⟩ : ∃ W2, W2 = wr.alloc (.cells #[.int .i64 x.foot, .int .i64 x.hour] 26) := ⟨_, rfl⟩
              have b2 : Below wr.heap.size wr W2 := by rw [hW2]; exact below_alloc _ _
              have e2 : W2.heap[wr.heap.size]? = some (.cells #[.int .i64 x.foot, .int .i64 x.hour] 26) := by rw [hW2]; exact heap_alloc_new _ _
              have HW2 := Lib.hid hW2
              clear hW2
              have g0 := Joins.cell_of_block e2 0
              have g1 := Joins.cell_of_block e2 1
              have B2 := below_then hbw b2
              have k1' := (B2.block _ (size_of_block r1)).trans r1
              have a1' := (B2.block _ (size_of_block rq1)).trans rq1
              have s0 := Joins.cell_of_block k1' 0
              have s1 := Joins.cell_of_block k1' 1
              have s2 := Joins.cell_of_block k1' 2
              have s3 := Joins.cell_of_block k1' 3
              have s4 := Joins.cell_of_block k1' 4
              have t0 := Joins.cell_of_block a1' 0
              have t1 := Joins.cell_of_block a1' 1
              have hc := HD.out W2 x hsx B2
              rw [HPB.out x] at hc
              have o2 := own_below hown b2
              have z2 := size_of_block e2
              clear e2 hown hbw b2 k1' a1'
              go_wp2_with (refine wpList_store_rowTo rfl 26 _ _ rfl rfl wr.heap.size #[.int .i64 x.foot, .int .i64 x.hour] rfl rfl 26 _ (heap_alloc_new wr _) (by kernel_rfl) rfl (by kernel_rfl) ?_; rw [World.setRow_alloc_new, ← HW2.out])
              refine hc.mono ?_
              rintro e W5 ⟨rfl, hb5⟩
              have o5 := own_below o2 hb5
              have B5 := below_then B2 hb5
              have n5 := B5.size
              clear hc o2 B2 hb5 g0 g1 e0 e1 s0 s1 s2 s3 s4 t0 t1
              rcases Bool.eq_false_or_eq_true (PB x) with hp | hp
              · have hy := Lib.hid (inds_yes (P := PB) hx.out hp)
                rw [hp]
                clear hp
                go_wp2_with (at_builtin; refine wpList_append_own _ rfl _ _ 27 rfl W11.heap.size 3 i0 (.int .i64 0) 1 8 Tryz.underlying27 HI.out HI0.out HI1.out HI2.out rfl (by decide) _ _ _ rfl (o5.alloc _) ⟨W5.heap.size, 0, none⟩ 1 1 [.int .i64 (j : Int)] rfl rfl (cell_one_new _ _ _) (one_oneCell rfl) ?c3 ?c4 ?c5 ?_)
                case c3 => unfold maxLen; omega
                case c4 => omega
                case c5 => simp; omega
                intro v' w1 hown' hgrow _
                have hB1 := below_append B5 (by omega) o5 hgrow
                clear hgrow o5 B5
                go_wp2_with fail
                go_roundw
                case rel => exact ⟨j + 1, by omega, by go_num, by rw [hy.out]; simpa [Nat.add_assoc] using hown', hB1⟩
                case measure => simp [intOf]; omega
              · rw [← inds_no (P := PB) hx.out hp] at o5
                rw [hp]
                clear hp
                go_wp2_with fail
                go_roundw
                case rel => exact ⟨j + 1, by omega, by go_num, o5, B5⟩
                case measure => simp [intOf]; omega
            · obtain rfl : j = l.length := by omega
              rw [← HR.out] at hown
              go_wp2_with fail
              refine bodyPost_ret (v := .tuple #[_, .int .i64 0]) ?_ rfl ⟨_, by rw [HE.out], own_weak hown zb0, below_then HB11.out hbw⟩
              simp [results, Tryz.results51, go_sem]
        · have d1 : (ke != 0) = true := by simpa using h0
          have HR : Hid (decideR f l at_ need = []) := by show decideR f l at_ need = _; unfold decideR; rw [HE.out, if_neg h0]
          clear h0 HZ HN HROW K11 hpe1 hpe2 hpe3 hke h5 h1c
          go_wp2_with fail
          refine bodyPost_ret (v := .tuple #[.slice none 0 0, .int .i64 ke]) ?_ rfl ⟨_, by rw [HE.out], by rw [HR.out]; exact World.ownsRow_nil _ _ _ _, B11⟩
          simp [results, Tryz.results51, go_sem]
end Go.Proofs.YtjpoacffnpgjdaaGreat
/- CheckClash: by the program. -/
namespace Go.Proofs.YtjpoacffnpgjdaaGreat
open Go Go.RowKit Go.Shelf
attribute [local go_sem] Oper.semAt_some Rel RelAt RelUpon

theorem Tryz.zeroLook (w : World) : (zeroValue 90).run Tryz.prog w = .ok (.agg #[.int .i64 0, .int .i64 0, .int .i64 0, .int .i64 0, .int .i64 0]) w := by kernel_rfl
def byIdL (l : List Lk) : List (Int × Value) := l.map fun x => (x.id, lkV x)
def atId (l : List Lk) (n : Int) : Lk := (l.find? (fun x => x.id == n)).getD ⟨0, 0, 0, 0, 0⟩
def hasId (l : List Lk) (n : Int) : Bool := (l.find? (fun x => x.id == n)).isSome
theorem byId_look (l : List Lk) (n : Int) : (byIdL l).lookup n = (l.find? (fun x => x.id == n)).map lkV := by
  induction l with
  | nil => rfl
  | cons x l ih =>
    unfold byIdL at ih ⊢
    simp only [List.map_cons, List.lookup_cons, List.find?_cons]
    cases hb : x.id == n with
    | true => have e : n = x.id := (beq_iff_eq.1 hb).symm; subst e; simp
    | false =>
      have e : (n == x.id) = false := by simp only [beq_eq_false_iff_ne] at hb ⊢; exact Ne.symm hb
      rw [e]; exact ih
theorem byId_val (l : List Lk) (n : Int) : (if true = true then Value.tuple #[((byIdL l).lookup n).getD (.agg #[.int .i64 0, .int .i64 0, .int .i64 0, .int .i64 0, .int .i64 0]), .bool ((byIdL l).lookup n).isSome] else ((byIdL l).lookup n).getD (.agg #[.int .i64 0, .int .i64 0, .int .i64 0, .int .i64 0, .int .i64 0])) = .tuple #[lkV (atId l n), .bool (hasId l n)] := by
  rw [if_pos rfl, byId_look]
  unfold atId hasId
  cases l.find? (fun x => x.id == n) <;> rfl
theorem byId_snoc {l : List Lk} {j : Nat} {x : Lk} (hx : l[j]? = some x) : byIdL (l.take (j + 1)) = byIdL (l.take j) ++ [(x.id, lkV x)] := by
  unfold byIdL; rw [take_snoc hx, List.map_append]; rfl
theorem byId_new {l : List Lk} {j : Nat} {x : Lk} (hd : l.Pairwise (fun a b => a.id ≠ b.id)) (hx : l[j]? = some x) : (byIdL (l.take j)).lookup x.id = none := by
  rw [byId_look, Option.map_eq_none_iff, List.find?_eq_none]
  intro y hy
  obtain ⟨i, hi⟩ := List.getElem?_of_mem hy
  rw [List.getElem?_take] at hi
  split at hi
  · rename_i hij
    have h1 := (List.getElem?_eq_some_iff.1 hi)
    have h2 := (List.getElem?_eq_some_iff.1 hx)
    have := List.pairwise_iff_getElem.1 hd i j h1.1 h2.1 hij
    rw [h1.2, h2.2] at this
    simpa using this
  · cases hi
theorem atId_mem {l : List Lk} {n : Int} (h : hasId l n = true) : l.find? (fun x => x.id == n) = some (atId l n) ∧ atId l n ∈ l := by
  unfold hasId at h; unfold atId
  cases hf : l.find? (fun x => x.id == n) with
  | none => rw [hf] at h; cases h
  | some x => exact ⟨rfl, List.mem_of_find?_eq_some hf⟩
theorem chk_eq (f : Fi) (a b : Int) (h : fireI f = 0) : chkClashI f a b = if hasId f.ls a && hasId f.ls b then (if againstB f (atId f.ls a) (atId f.ls b) then 0 else 8) else 5 := by
  unfold chkClashI
  rw [if_neg (by rw [h]; simp)]
  unfold hasId atId
  cases f.ls.find? (fun x => x.id == a) <;> cases f.ls.find? (fun x => x.id == b) <;> simp
set_option maxRecDepth 100000 in
set_option maxHeartbeats 4000000 in
theorem CheckClash_c (f : Fi) (vl : Value) (a b : Int) (w : World) (hl : Lks w w.heap.size vl f.ls) :
    Calls Tryz.prog 20 #[fiV f vl, .int .i64 a, .int .i64 b] w fun e w' => e = .returned (.int .i64 (chkClashI f a b)) ∧ Below w.heap.size w w' := by
  obtain ⟨A, cap, rfl, _, hn, hat⟩ := hl.open_
  have H := Lib.hid hat
  clear hat
  have q0 := heap_alloc_new w (.cells #[.int .i64 f.rise, .int .i64 f.fall, .int .i64 f.up, .int .i64 f.down, .slice A f.ls.length cap] 24)
  have qb := below_alloc w (.cells #[.int .i64 f.rise, .int .i64 f.fall, .int .i64 f.up, .int .i64 f.down, .slice A f.ls.length cap] 24)
  obtain ⟨R, hR⟩ : ∃ r, r = chkClashI f a b := ⟨_, rfl⟩
  rw [← hR]
  have HR := Lib.hid hR
  clear hR
  have hC := fun W (hb : Below w.heap.size w W) => Check_c f (fiV f (.slice A f.ls.length cap)) W ⟨_, rfl, hl.later hb⟩
  have hmm := @run_makeMap Tryz.prog
  unfold fiV at hC ⊢
  go_enter Tryz.func20, Tryz.ntmps20
  go_wp2_with fail
  generalize w.alloc _ = W3 at q0 qb ⊢
  refine (hC W3 qb).mono ?_
  rintro e W4 ⟨rfl, hb4⟩
  replace q0 := (hb4.block _ (size_of_block q0)).trans q0
  replace qb := below_then qb hb4
  clear hb4 hC
  by_cases hf : fireI f = 0
  · have HR2 := Lib.hid (HR.out.trans (chk_eq f a b hf))
    have ok := Lib.hid (fire_ok hf)
    rw [hf]
    clear hf
    have M0 := IMap.made W4
    have a1 := below_alloc W4 (.map #[] 0)
    have hs2 : W4.heap.size < (W4.alloc (.map #[] 0)).heap.size := by simp
    have q5 := (a1.block _ (size_of_block q0)).trans q0
    have s4 := Joins.cell_of_block q5 4
    go_wp2_with fail
    clear s4
    have B5 := below_then qb a1
    generalize hmb : W4.heap.size = mb at M0 hs2 ⊢
    have hmbw : w.heap.size < mb := by rw [← hmb]; exact size_of_block q0
    generalize W4.alloc (.map #[] 0) = W5 at M0 a1 hs2 q5 B5 ⊢
    have z5 := size_of_block q5
    clear q0 qb a1 hmb
    go_loopw [24] (fun i wr => ∃ j : Nat, j ≤ f.ls.length ∧ i = .int .i64 j ∧ IMap wr mb (byIdL (f.ls.take j)) ∧ Below w.heap.size w wr ∧ mb < wr.heap.size ∧ wr.heap[w.heap.size]? = some (.cells #[.int .i64 f.rise, .int .i64 f.fall, .int .i64 f.up, .int .i64 f.down, .slice A f.ls.length cap] 24)) (fun i _ => f.ls.length - (intOf i).toNat)
    case atStart => exact ⟨0, Nat.zero_le _, rfl, M0, B5, hs2, q5⟩
    case round =>
      obtain ⟨j, hj, rfl, hmap, hbw, hws, hq⟩ := hrel
      have hbs := hbw.size
      by_cases hlt : j < f.ls.length
      · obtain ⟨b', off, x, rfl, hb, hx0, c0, c1, c2, c3, c4⟩ := H.out j hlt
        have d0 := (hbw.cell (p := ⟨b', off + j * 5, none⟩) hb).trans c0
        have d1 := (hbw.cell (p := ⟨b', off + j * 5 + 1, none⟩) hb).trans c1
        have d2 := (hbw.cell (p := ⟨b', off + j * 5 + 2, none⟩) hb).trans c2
        have d3 := (hbw.cell (p := ⟨b', off + j * 5 + 3, none⟩) hb).trans c3
        have d4 := (hbw.cell (p := ⟨b', off + j * 5 + 4, none⟩) hb).trans c4
        have hzb : b' < wr.heap.size := Nat.lt_of_lt_of_le hb hbs
        have hsn := Lib.hid (byId_snoc hx0)
        have hno := Lib.hid (byId_new ok.out.ids hx0)
        clear c0 c1 c2 c3 c4 hx0
        obtain ⟨W2, hW2⟩ : ∃ W2, W2 = wr.alloc (.cells #[.int .i64 x.id, .int .i64 x.foot, .int .i64 x.hour, .int .i64 x.lo, .int .i64 x.hi] 90) := ⟨_, rfl⟩
        have b2 : Below wr.heap.size wr W2 := by rw [hW2]; exact below_alloc _ _
        have e2 : W2.heap[wr.heap.size]? = some (.cells #[.int .i64 x.id, .int .i64 x.foot, .int .i64 x.hour, .int .i64 x.lo, .int .i64 x.hi] 90) := by rw [hW2]; exact heap_alloc_new _ _
        have HW2 := Lib.hid hW2
        clear hW2
        have g0 := Joins.cell_of_block e2 0
        have g1 := Joins.cell_of_block e2 1
        have g2 := Joins.cell_of_block e2 2
        have g3 := Joins.cell_of_block e2 3
        have g4 := Joins.cell_of_block e2 4
        have hm2 := hmap.later b2
        have B2 := below_then hbw b2
        have hq2 := (b2.block _ (size_of_block hq)).trans hq
        have n2 := b2.size
        have zq := size_of_block hq
        clear e2 hmap hbw b2 hq
        go_wp2_with (first | (refine wpList_store_rowTo rfl 90 _ _ rfl rfl wr.heap.size #[.int .i64 x.id, .int .i64 x.foot, .int .i64 x.hour, .int .i64 x.lo, .int .i64 x.hi] rfl rfl 90 _ (heap_alloc_new wr _) (by kernel_rfl) rfl (by kernel_rfl) ?_; rw [World.setRow_alloc_new, ← HW2.out]) | (at_mapUpdate; refine wpList_mapUpdate_new rfl _ _ _ 128 rfl Tryz.underlying128 Tryz.underlying3 rfl x.id rfl (lkV x) rfl hm2 hno.out ?_))
        intro w4 hm4 hgrow4
        have hb4 := B2.grown hgrow4 (by omega) fun k e => by cases e; omega
        have hs4 : mb < w4.heap.size := by have := hgrow4.size; omega
        have hq4 := (((Below.refl mb W2).grown hgrow4 (by omega) (fun k e => by cases e; omega)).block _ hmbw).trans hq2
        clear hgrow4
        go_wp2_with fail
        go_roundw
        case rel => exact ⟨j + 1, by omega, by go_num, by rw [hsn.out]; exact hm4, hb4, hs4, hq4⟩
        case measure => simp [intOf]; omega
      · obtain rfl : j = f.ls.length := by omega
        rw [List.take_length] at hmap
        have hu := byId_val f.ls a
        have hv := byId_val f.ls b
        obtain ⟨xa, hxa⟩ : ∃ x, x = atId f.ls a := ⟨_, rfl⟩
        obtain ⟨xb, hxb⟩ : ∃ x, x = atId f.ls b := ⟨_, rfl⟩
        obtain ⟨ba, hba⟩ : ∃ x, x = hasId f.ls a := ⟨_, rfl⟩
        obtain ⟨bb, hbb⟩ : ∃ x, x = hasId f.ls b := ⟨_, rfl⟩
        rw [← hxa, ← hba] at hu
        rw [← hxb, ← hbb] at hv
        have HR3 : Hid (R = if ba && bb then (if againstB f xa xb then 0 else 8) else 5) := by show R = _; rw [hba, hbb, hxa, hxb]; exact HR2.out
        have HA : Hid (ba = true → lookB xa = true) := fun h => by rw [hxa]; exact ok.out.look _ (atId_mem (hba.symm.trans h)).2
        have HB : Hid (bb = true → lookB xb = true) := fun h => by rw [hxb]; exact ok.out.look _ (atId_mem (hbb.symm.trans h)).2
        have HU := Lib.hid hu
        have HV := Lib.hid hv
        clear hxa hxb hba hbb hu hv HR2
        have aw := below_alloc wr (.cells #[.int .i64 xa.id, .int .i64 xa.foot, .int .i64 xa.hour, .int .i64 xa.lo, .int .i64 xa.hi] 90)
        have hm3 := hmap.later aw
        obtain ⟨W6, hW6⟩ : ∃ W6, W6 = wr.alloc (.cells #[.int .i64 xa.id, .int .i64 xa.foot, .int .i64 xa.hour, .int .i64 xa.lo, .int .i64 xa.hi] 90) := ⟨_, rfl⟩
        obtain ⟨W7, hW7⟩ : ∃ W7, W7 = W6.alloc (.cells #[.int .i64 xb.id, .int .i64 xb.foot, .int .i64 xb.hour, .int .i64 xb.lo, .int .i64 xb.hi] 90) := ⟨_, rfl⟩
        have b6 : Below wr.heap.size wr W6 := by rw [hW6]; exact below_alloc _ _
        have b7 : Below W6.heap.size W6 W7 := by rw [hW7]; exact below_alloc _ _
        have e6 : W6.heap[wr.heap.size]? = some (.cells #[.int .i64 xa.id, .int .i64 xa.foot, .int .i64 xa.hour, .int .i64 xa.lo, .int .i64 xa.hi] 90) := by rw [hW6]; exact heap_alloc_new _ _
        have e7 : W7.heap[W6.heap.size]? = some (.cells #[.int .i64 xb.id, .int .i64 xb.foot, .int .i64 xb.hour, .int .i64 xb.lo, .int .i64 xb.hi] 90) := by rw [hW7]; exact heap_alloc_new _ _
        have HW6 := Lib.hid hW6
        have HW7 := Lib.hid hW7
        replace e6 := (b7.block _ (size_of_block e6)).trans e6
        have hq7 := ((below_then b6 b7).block _ (size_of_block hq)).trans hq
        have B7 := below_then hbw (below_then b6 b7)
        rw [← hW6] at aw hm3
        clear hW6 hW7 b6 b7 hq hbw aw
        cases ba <;> cases bb
        · have HR4 : Hid (R = 5) := HR3.out
          go_wp2_with (first | (at_lookup; refine wpList_lookup_i rfl (.tmp 34) (.tmp 35) 128 true rfl Tryz.underlying128 Tryz.underlying3 (.agg #[.int .i64 0, .int .i64 0, .int .i64 0, .int .i64 0, .int .i64 0]) Tryz.zeroLook rfl a rfl hmap _ HU.out ?_) | (at_lookup; refine wpList_lookup_i rfl (.tmp 40) (.tmp 41) 128 true rfl Tryz.underlying128 Tryz.underlying3 (.agg #[.int .i64 0, .int .i64 0, .int .i64 0, .int .i64 0, .int .i64 0]) Tryz.zeroLook rfl b rfl hm3 _ HV.out ?_) | (refine wpList_store_rowTo rfl 90 _ _ rfl rfl wr.heap.size #[.int .i64 xa.id, .int .i64 xa.foot, .int .i64 xa.hour, .int .i64 xa.lo, .int .i64 xa.hi] rfl rfl 90 _ (heap_alloc_new wr _) (by kernel_rfl) rfl (by kernel_rfl) ?_; rw [World.setRow_alloc_new, ← HW6.out]) | (refine wpList_store_rowTo rfl 90 _ _ rfl rfl W6.heap.size #[.int .i64 xb.id, .int .i64 xb.foot, .int .i64 xb.hour, .int .i64 xb.lo, .int .i64 xb.hi] rfl rfl 90 _ (heap_alloc_new W6 _) (by kernel_rfl) rfl (by kernel_rfl) ?_; rw [World.setRow_alloc_new, ← HW7.out]))
          go_ret
          exact ⟨ret_int HR4.out.symm, B7⟩
        · have HR4 : Hid (R = 5) := HR3.out
          go_wp2_with (first | (at_lookup; refine wpList_lookup_i rfl (.tmp 34) (.tmp 35) 128 true rfl Tryz.underlying128 Tryz.underlying3 (.agg #[.int .i64 0, .int .i64 0, .int .i64 0, .int .i64 0, .int .i64 0]) Tryz.zeroLook rfl a rfl hmap _ HU.out ?_) | (at_lookup; refine wpList_lookup_i rfl (.tmp 40) (.tmp 41) 128 true rfl Tryz.underlying128 Tryz.underlying3 (.agg #[.int .i64 0, .int .i64 0, .int .i64 0, .int .i64 0, .int .i64 0]) Tryz.zeroLook rfl b rfl hm3 _ HV.out ?_) | (refine wpList_store_rowTo rfl 90 _ _ rfl rfl wr.heap.size #[.int .i64 xa.id, .int .i64 xa.foot, .int .i64 xa.hour, .int .i64 xa.lo, .int .i64 xa.hi] rfl rfl 90 _ (heap_alloc_new wr _) (by kernel_rfl) rfl (by kernel_rfl) ?_; rw [World.setRow_alloc_new, ← HW6.out]) | (refine wpList_store_rowTo rfl 90 _ _ rfl rfl W6.heap.size #[.int .i64 xb.id, .int .i64 xb.foot, .int .i64 xb.hour, .int .i64 xb.lo, .int .i64 xb.hi] rfl rfl 90 _ (heap_alloc_new W6 _) (by kernel_rfl) rfl (by kernel_rfl) ?_; rw [World.setRow_alloc_new, ← HW7.out]))
          go_ret
          exact ⟨ret_int HR4.out.symm, B7⟩
        · have HR4 : Hid (R = 5) := HR3.out
          go_wp2_with (first | (at_lookup; refine wpList_lookup_i rfl (.tmp 34) (.tmp 35) 128 true rfl Tryz.underlying128 Tryz.underlying3 (.agg #[.int .i64 0, .int .i64 0, .int .i64 0, .int .i64 0, .int .i64 0]) Tryz.zeroLook rfl a rfl hmap _ HU.out ?_) | (at_lookup; refine wpList_lookup_i rfl (.tmp 40) (.tmp 41) 128 true rfl Tryz.underlying128 Tryz.underlying3 (.agg #[.int .i64 0, .int .i64 0, .int .i64 0, .int .i64 0, .int .i64 0]) Tryz.zeroLook rfl b rfl hm3 _ HV.out ?_) | (refine wpList_store_rowTo rfl 90 _ _ rfl rfl wr.heap.size #[.int .i64 xa.id, .int .i64 xa.foot, .int .i64 xa.hour, .int .i64 xa.lo, .int .i64 xa.hi] rfl rfl 90 _ (heap_alloc_new wr _) (by kernel_rfl) rfl (by kernel_rfl) ?_; rw [World.setRow_alloc_new, ← HW6.out]) | (refine wpList_store_rowTo rfl 90 _ _ rfl rfl W6.heap.size #[.int .i64 xb.id, .int .i64 xb.foot, .int .i64 xb.hour, .int .i64 xb.lo, .int .i64 xb.hi] rfl rfl 90 _ (heap_alloc_new W6 _) (by kernel_rfl) rfl (by kernel_rfl) ?_; rw [World.setRow_alloc_new, ← HW7.out]))
          go_ret
          exact ⟨ret_int HR4.out.symm, B7⟩
        · have HR4 : Hid (R = if againstB f xa xb then 0 else 8) := HR3.out
          go_wp2_with (first | (at_lookup; refine wpList_lookup_i rfl (.tmp 34) (.tmp 35) 128 true rfl Tryz.underlying128 Tryz.underlying3 (.agg #[.int .i64 0, .int .i64 0, .int .i64 0, .int .i64 0, .int .i64 0]) Tryz.zeroLook rfl a rfl hmap _ HU.out ?_) | (at_lookup; refine wpList_lookup_i rfl (.tmp 40) (.tmp 41) 128 true rfl Tryz.underlying128 Tryz.underlying3 (.agg #[.int .i64 0, .int .i64 0, .int .i64 0, .int .i64 0, .int .i64 0]) Tryz.zeroLook rfl b rfl hm3 _ HV.out ?_) | (refine wpList_store_rowTo rfl 90 _ _ rfl rfl wr.heap.size #[.int .i64 xa.id, .int .i64 xa.foot, .int .i64 xa.hour, .int .i64 xa.lo, .int .i64 xa.hi] rfl rfl 90 _ (heap_alloc_new wr _) (by kernel_rfl) rfl (by kernel_rfl) ?_; rw [World.setRow_alloc_new, ← HW6.out]) | (refine wpList_store_rowTo rfl 90 _ _ rfl rfl W6.heap.size #[.int .i64 xb.id, .int .i64 xb.foot, .int .i64 xb.hour, .int .i64 xb.lo, .int .i64 xb.hi] rfl rfl 90 _ (heap_alloc_new W6 _) (by kernel_rfl) rfl (by kernel_rfl) ?_; rw [World.setRow_alloc_new, ← HW7.out]))
          have hSl := fun W => slopesOf_c f A f.ls.length cap W
          have hCt := fun W => contradict_c f xa xb W ok.out.slope (HA.out (by trivial)) (HB.out (by trivial))
          unfold fiV slV at hSl
          unfold slV lkV at hCt
          generalize againstB f xa xb = ag at hCt HR4
          refine wp_region_looseM [] [0, 2, 3] (.one 1 (.one 4 .done)) [] [5] [] [] [] (by kernel_rfl) (by kernel_rfl) (by intro c a d v w h; cases d <;> exact h) (by intro c a d v w h; cases d <;> exact h) rfl (fun r i h => by simp at h) ?_
          simp only [pick, List.filterMap_cons, List.filterMap_nil, List.getElem?_toArray, List.getElem?_cons_succ, List.getElem?_cons_zero]
          intro u hu
          replace hq7 := (hu.block _ (size_of_block hq7)).trans hq7
          replace e6 := (hu.block _ (size_of_block e6)).trans e6
          replace e7 := (hu.block _ (size_of_block e7)).trans e7
          replace B7 := below_then B7 hu
          have z0 := size_of_block hq7
          have z1 := size_of_block e6
          have z2 := size_of_block e7
          have s0 := Joins.cell_of_block hq7 0
          have s1 := Joins.cell_of_block hq7 1
          have s2 := Joins.cell_of_block hq7 2
          have s3 := Joins.cell_of_block hq7 3
          have s4 := Joins.cell_of_block hq7 4
          have t0 := Joins.cell_of_block e6 0
          have t1 := Joins.cell_of_block e6 1
          have t2 := Joins.cell_of_block e6 2
          have t3 := Joins.cell_of_block e6 3
          have t4 := Joins.cell_of_block e6 4
          have u0 := Joins.cell_of_block e7 0
          have u1 := Joins.cell_of_block e7 1
          have u2 := Joins.cell_of_block e7 2
          have u3 := Joins.cell_of_block e7 3
          have u4 := Joins.cell_of_block e7 4
          have hcg : ∀ (g : Gr u) b o, b < u.heap.size → g.val.cell? ⟨b, o, none⟩ = u.cell? ⟨b, o, none⟩ := fun g b o h => (bcell g.b).1 b o h
          iterate 3 (refine wpRel_step (fun K hK => ?_); go_simp; refine hK _ ?_; clear hK K)
          refine wpRel_nil fun V0 hb0 => ?_
          clear hcg s0 s1 s2 s3 s4 t0 t1 t2 t3 t4 u0 u1 u2 u3 u4
          have C0 := below_then B7 hb0
          refine wpTr_step rfl rfl fun K hK => ?_
          go_simp
          refine (hSl V0).mono ?_
          rintro e X0 ⟨rfl, hx0⟩
          refine hK _ _ hx0 fun V1 hu1 => ?_
          clear hK K
          have C1 := below_then C0 (below_then hx0 hu1)
          refine wpTr_step rfl rfl fun K hK => ?_
          go_simp
          refine (hCt V1).mono ?_
          rintro e X1 ⟨rfl, hx1⟩
          refine hK _ _ hx1 fun V2 hu2 => ?_
          clear hK K
          have C2 := below_then C1 (below_then hx1 hu2)
          show wpPure _ _ _ _
          refine wpPure_step (.bool (!ag)) rfl (fun u => rfl) ?_
          intro ks hk _ _
          obtain rfl : ks = [] := List.length_eq_zero_iff.1 hk
          clear hk
          show wpList _ _ _ _ _ _
          simp only [deco]
          cases ag
          · have HR5 : Hid (R = 8) := HR4.out
            go_wp2_with fail
            go_ret
            exact ⟨ret_int HR5.out.symm, C2⟩
          · have HR5 : Hid (R = 0) := HR4.out
            go_wp2_with fail
            go_ret
            exact ⟨ret_int HR5.out.symm, C2⟩
  · have d1 : (fireI f != 0) = true := by simpa using hf
    have HR2 : Hid (R = fireI f) := by show R = _; rw [HR.out]; unfold chkClashI; rw [if_pos hf]
    clear hf
    go_wp2_with fail
    go_ret
    exact ⟨ret_int HR2.out.symm, qb⟩
end Go.Proofs.YtjpoacffnpgjdaaGreat
