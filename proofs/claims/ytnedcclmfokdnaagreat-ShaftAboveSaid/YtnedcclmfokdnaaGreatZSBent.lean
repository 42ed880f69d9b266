/- The law package's bent (written by tools/gensbent.py). -/
import Derived.Test.YtnedcclmfokdnaaGreatZSCat
import Derived.Test.YtnedcclmfokdnaaGreatJ25
import Derived.Test.YtnedcclmfokdnaaGreatZWR
import Derived.Deep.CutRange
import Derived.Test.YtnedcclmfokdnaaGreatZPlanTE
namespace Go.Proofs.YtnedcclmfokdnaaGreat
open Go Go.RowKit Go.Shelf
attribute [local go_sem] Oper.semAt_some Rel RelAt RelUpon

/-- A number stored anywhere: a list of numbers stays one. -/
theorem own_any {w : World} {B : Nat} {e : TypeId} {v : Value} {l : List Int} (h : w.ownsRow B e 1 v l.length (l.map (Value.int .i64))) (g i : Nat) (z : Int) :
    ∃ l' : List Int, l'.length = l.length ∧ (w.setCell ⟨g, i, none⟩ (.int .i64 z)).ownsRow B e 1 v l'.length (l'.map (Value.int .i64)) := by
  obtain ⟨hl, h⟩ := h
  rcases h with ⟨rfl, h0⟩ | ⟨g', cap, cur, rfl, hb, hh, hc, hm, hs, ht⟩
  · exact ⟨l, rfl, hl, .inl ⟨rfl, h0⟩⟩
  · by_cases hg : g' = g
    · subst hg
      refine ⟨l.set i z, by simp, by simp, .inr ⟨g', cap, cur.setIfInBounds i (.int .i64 z), by simp, hb, Joins.block_setCell hh _, by simpa using hc, hm, by simpa using hs, ?_⟩⟩
      rw [Array.toList_setIfInBounds, List.length_set, List.map_set, ← ht]
      rw [List.take_set]
    · exact ⟨l, rfl, hl, .inr ⟨g', cap, cur, rfl, hb, (put_other _ hg).trans hh, hc, hm, hs, ht⟩⟩
theorem step_new {W V : World} {o : Obj} (hu : Below (W.alloc o).heap.size (W.alloc o) V) : V.heap[W.heap.size]? = some o ∧ Below W.heap.size W V := ⟨(hu.block _ (by simp)).trans (heap_alloc_new W o), below_then (below_alloc W o) hu⟩
theorem own_slot {w : World} {B : Nat} {e : TypeId} {A : Option Addr} {cap : Nat} {l : List Int} (h : w.ownsRow B e 1 (.slice A l.length cap) l.length (l.map (Value.int .i64))) (hp : 0 < l.length) : ∃ g, A = some ⟨g, 0, none⟩ ∧ B ≤ g ∧ g < w.heap.size ∧ l.length ≤ cap := by
  obtain ⟨_, h⟩ := h
  rcases h with ⟨_, h0⟩ | ⟨g', cap', cur, e, hb, hh, hc, _⟩
  · omega
  · obtain ⟨rfl, rfl⟩ : A = some ⟨g', 0, none⟩ ∧ cap = cap' := by simpa using e
    exact ⟨g', rfl, hb, size_of_block hh, hc⟩
set_option maxRecDepth 100000 in
set_option maxHeartbeats 16000000 in
theorem bent_c (m : Int) (A0 A1 A2 : Option Addr) (c0 c1 c2 : Nat) (p tl td : List Int) (a : Nat) (n : Int) (w : World) (hp : Ints w w.heap.size (.slice A0 p.length c0) p) (ht : Truth w (.agg #[.slice A1 tl.length c1, .slice A2 td.length c2]) tl td) (h1 : p.length ≤ 1000) (h2 : tl.length ≤ 1000) (h3 : td.length ≤ 1000) (ha : a ≤ 255) : Calls Tryz.prog 33 #[.agg #[.int .i64 m, .slice A0 p.length c0, .slice A1 tl.length c1, .slice A2 td.length c2], .int .u8 a, .int .i64 n] w fun e w' => ∃ m' B0 B1 B2 d0 d1 d2 p' tl' td', e = .returned (.agg #[.int .i64 m', .slice B0 (p' : List Int).length d0, .slice B1 (tl' : List Int).length d1, .slice B2 (td' : List Int).length d2]) ∧ (Ints w' w'.heap.size (.slice B0 p'.length d0) p' ∧ Truth w' (.agg #[.slice B1 tl'.length d1, .slice B2 td'.length d2]) tl' td') ∧ Below w.heap.size w w' := by
  obtain ⟨ta, tb, e9, hl, hd⟩ := ht
  obtain ⟨rfl, rfl⟩ : .slice A1 tl.length c1 = ta ∧ .slice A2 td.length c2 = tb := by simpa using e9
  have S0 := Lib.hid hp
  have S1 := Lib.hid hl
  have S2 := Lib.hid hd
  clear hp hl hd e9
  obtain ⟨i0, hi, hz0, hz1, hz2⟩ := info_parts Tryz.infoIntT
  have HI := Lib.hid hi
  have HI0 := Lib.hid hz0
  have HI1 := Lib.hid hz1
  have HI2 := Lib.hid hz2
  clear hi hz0 hz1 hz2
  go_enter Tryz.func33, Tryz.ntmps33
  obtain ⟨bc, br, -, hB⟩ := two_new' w (.cells #[.int .i64 m, .slice A0 p.length c0, .slice A1 tl.length c1, .slice A2 td.length c2] 54) (.cells #[.int .i64 0, .slice none 0 0, .slice none 0 0, .slice none 0 0] 54)
  go_upto_region 1 with fail
  generalize ((w.alloc (.cells #[.int .i64 m, .slice A0 p.length c0, .slice A1 tl.length c1, .slice A2 td.length c2] 54)).alloc (.cells #[.int .i64 0, .slice none 0 0, .slice none 0 0, .slice none 0 0] 54)) = w1 at bc br hB ⊢
  go_cut [7] from 9 to 26 (fun o wx => ∃ (g : Nat) (B0 B1 B2 : Option Addr) (d0 d1 d2 : Nat), o = .pointer (some ⟨g, 0, none⟩) ∧ wx.heap[g]? = some (.cells #[.int .i64 m, .slice B0 p.length d0, .slice B1 tl.length d1, .slice B2 td.length d2] 54) ∧ wx.heap[w.heap.size + 1]? = some (.cells #[.int .i64 0, .slice none 0 0, .slice none 0 0, .slice none 0 0] 54) ∧ w.heap.size + 1 < g ∧ wx.ownsRow w.heap.size 3 1 (.slice B0 p.length d0) p.length (p.map (Value.int .i64)) ∧ wx.ownsRow w.heap.size 3 1 (.slice B1 tl.length d1) tl.length (tl.map (Value.int .i64)) ∧ wx.ownsRow w.heap.size 3 1 (.slice B2 td.length d2) td.length (td.map (Value.int .i64)) ∧ Below w.heap.size w wx)
  case first =>
    have szr := size_of_block br
    have szB := hB.size
    refine wp_region_looseM [] [0, 1, 3, 4, 7, 8, 9, 12, 13, 14] (.alt (.one 2 (.alt (.one 6 (.alt (.one 11 (.one 5 (.one 10 (.one 15 (.one 16 .done))))) (.one 5 (.alt (.one 11 (.one 10 (.one 15 (.one 16 .done)))) (.one 10 (.one 11 (.one 15 (.one 16 .done)))))))) (.alt (.one 11 (.alt (.one 6 (.one 5 (.one 10 (.one 15 (.one 16 .done))))) (.one 5 (.one 6 (.one 10 (.one 15 (.one 16 .done))))))) (.one 5 (.alt (.one 6 (.alt (.one 11 (.one 10 (.one 15 (.one 16 .done)))) (.one 10 (.one 11 (.one 15 (.one 16 .done)))))) (.one 11 (.one 6 (.one 10 (.one 15 (.one 16 .done)))))))))) (.alt (.one 6 (.alt (.one 2 (.alt (.one 11 (.one 5 (.one 10 (.one 15 (.one 16 .done))))) (.one 5 (.alt (.one 11 (.one 10 (.one 15 (.one 16 .done)))) (.one 10 (.one 11 (.one 15 (.one 16 .done)))))))) (.one 11 (.one 2 (.one 5 (.one 10 (.one 15 (.one 16 .done)))))))) (.one 11 (.alt (.one 2 (.alt (.one 6 (.one 5 (.one 10 (.one 15 (.one 16 .done))))) (.one 5 (.one 6 (.one 10 (.one 15 (.one 16 .done))))))) (.one 6 (.one 2 (.one 5 (.one 10 (.one 15 (.one 16 .done)))))))))) [18] [17] [19] [some 7] [.cells #[.int .i64 0, .slice none 0 0, .slice none 0 0, .slice none 0 0] 54] (by kernel_rfl) (by kernel_rfl) (by intro c a d v w h; cases d <;> exact h) (by intro c a d v w h; cases d <;> exact h) rfl (by intro r i hri; match r, hri with | 0, hri => cases hri; exact ⟨_, _, rfl, rfl, rfl, rfl, fun a u => by simp [execOp, go_sem, ptrV]⟩) ?_
    simp only [pick, List.filterMap_cons, List.filterMap_nil, List.getElem?_toArray, List.getElem?_cons_succ, List.getElem?_cons_zero]
    intro U hu
    replace bc := (hu.block _ (size_of_block bc)).trans bc
    replace br := (hu.block _ (size_of_block br)).trans br
    replace hB := below_then hB hu
    clear hu
    have cbc0 := Joins.cell_of_block bc 0
    have cbc1 := Joins.cell_of_block bc 1
    have cbc2 := Joins.cell_of_block bc 2
    have cbc3 := Joins.cell_of_block bc 3
    have zbc := size_of_block bc
    have hcg : ∀ (g : Gr U) b o, b < U.heap.size → g.val.cell? ⟨b, o, none⟩ = U.cell? ⟨b, o, none⟩ := fun g b o h => (bcell g.b).1 b o h
    iterate 10 (refine wpRel_step (fun K hK => ?_); go_simp; refine hK _ ?_; clear hK K)
    refine wpRel_nil fun V hb => ?_
    clear hcg cbc0 cbc1 cbc2 cbc3 zbc
    replace bc := (hb.block _ (size_of_block bc)).trans bc
    replace br := (hb.block _ (size_of_block br)).trans br
    replace hB := below_then hB hb
    clear hb bc
    repeat' (first
      | refine wpTr_alt ?_ ?_
      | (refine wpTr_step (j := 2) rfl rfl fun K hK => ?_; go_simp; refine hK _ _ (below_alloc _ _) fun V hu => ?_; clear hK K; obtain ⟨y2, D⟩ := step_new hu; have g2 := hB.size; clear hu; replace br := (D.block _ (size_of_block br)).trans br; (try replace y2 := (D.block _ (size_of_block y2)).trans y2); (try replace y6 := (D.block _ (size_of_block y6)).trans y6); (try replace y11 := (D.block _ (size_of_block y11)).trans y11); (try replace q5 := own_later q5 D); (try replace q10 := own_later q10 D); (try replace q15 := own_later q15 D); replace hB := below_then hB D; clear D)
      | (refine wpTr_step (j := 6) rfl rfl fun K hK => ?_; go_simp; refine hK _ _ (below_alloc _ _) fun V hu => ?_; clear hK K; obtain ⟨y6, D⟩ := step_new hu; have g6 := hB.size; clear hu; replace br := (D.block _ (size_of_block br)).trans br; (try replace y2 := (D.block _ (size_of_block y2)).trans y2); (try replace y6 := (D.block _ (size_of_block y6)).trans y6); (try replace y11 := (D.block _ (size_of_block y11)).trans y11); (try replace q5 := own_later q5 D); (try replace q10 := own_later q10 D); (try replace q15 := own_later q15 D); replace hB := below_then hB D; clear D)
      | (refine wpTr_step (j := 11) rfl rfl fun K hK => ?_; go_simp; refine hK _ _ (below_alloc _ _) fun V hu => ?_; clear hK K; obtain ⟨y11, D⟩ := step_new hu; have g11 := hB.size; clear hu; replace br := (D.block _ (size_of_block br)).trans br; (try replace y2 := (D.block _ (size_of_block y2)).trans y2); (try replace y6 := (D.block _ (size_of_block y6)).trans y6); (try replace y11 := (D.block _ (size_of_block y11)).trans y11); (try replace q5 := own_later q5 D); (try replace q10 := own_later q10 D); (try replace q15 := own_later q15 D); replace hB := below_then hB D; clear D)
      | (refine wpTr_step (j := 5) rfl rfl fun K hK => ?_; obtain ⟨v5, W5, hr, q5, hb⟩ := append_catI (base := w.heap.size) HI.out HI0.out HI1.out HI2.out 27 (S0.out.later hB) (by omega) y2 g2; refine Lib.wp_append_run _ (.tmp 11) (.tmp 13) _ _ rfl _ _ rfl rfl _ _ hr ?_; refine hK _ _ hb fun V hu => ?_; clear hK K hr y2 g2; replace q5 := own_later q5 hu; have D := below_then hb hu; clear hb hu; replace br := (D.block _ (size_of_block br)).trans br; (try replace y2 := (D.block _ (size_of_block y2)).trans y2); (try replace y6 := (D.block _ (size_of_block y6)).trans y6); (try replace y11 := (D.block _ (size_of_block y11)).trans y11); (try replace q5 := own_later q5 D); (try replace q10 := own_later q10 D); (try replace q15 := own_later q15 D); replace hB := below_then hB D; clear D)
      | (refine wpTr_step (j := 10) rfl rfl fun K hK => ?_; obtain ⟨v10, W10, hr, q10, hb⟩ := append_catI (base := w.heap.size) HI.out HI0.out HI1.out HI2.out 27 (S1.out.later hB) (by omega) y6 g6; refine Lib.wp_append_run _ (.tmp 15) (.tmp 18) _ _ rfl _ _ rfl rfl _ _ hr ?_; refine hK _ _ hb fun V hu => ?_; clear hK K hr y6 g6; replace q10 := own_later q10 hu; have D := below_then hb hu; clear hb hu; replace br := (D.block _ (size_of_block br)).trans br; (try replace y2 := (D.block _ (size_of_block y2)).trans y2); (try replace y6 := (D.block _ (size_of_block y6)).trans y6); (try replace y11 := (D.block _ (size_of_block y11)).trans y11); (try replace q5 := own_later q5 D); (try replace q10 := own_later q10 D); (try replace q15 := own_later q15 D); replace hB := below_then hB D; clear D)
      | (refine wpTr_step (j := 15) rfl rfl fun K hK => ?_; obtain ⟨v15, W15, hr, q15, hb⟩ := append_catI (base := w.heap.size) HI.out HI0.out HI1.out HI2.out 27 (S2.out.later hB) (by omega) y11 g11; refine Lib.wp_append_run _ (.tmp 20) (.tmp 23) _ _ rfl _ _ rfl rfl _ _ hr ?_; refine hK _ _ hb fun V hu => ?_; clear hK K hr y11 g11; replace q15 := own_later q15 hu; have D := below_then hb hu; clear hb hu; replace br := (D.block _ (size_of_block br)).trans br; (try replace y2 := (D.block _ (size_of_block y2)).trans y2); (try replace y6 := (D.block _ (size_of_block y6)).trans y6); (try replace y11 := (D.block _ (size_of_block y11)).trans y11); (try replace q5 := own_later q5 D); (try replace q10 := own_later q10 D); (try replace q15 := own_later q15 D); replace hB := below_then hB D; clear D)
      | (refine wpTr_step (j := 16) rfl rfl fun K hK => ?_; obtain ⟨B0, d0, rfl⟩ := own_form q5; obtain ⟨B1, d1, rfl⟩ := own_form q10; obtain ⟨B2, d2, rfl⟩ := own_form q15; go_simp; refine hK _ _ (Below.refl _ _) fun V D => ?_; clear hK K; replace br := (D.block _ (size_of_block br)).trans br; (try replace y2 := (D.block _ (size_of_block y2)).trans y2); (try replace y6 := (D.block _ (size_of_block y6)).trans y6); (try replace y11 := (D.block _ (size_of_block y11)).trans y11); (try replace q5 := own_later q5 D); (try replace q10 := own_later q10 D); (try replace q15 := own_later q15 D); replace hB := below_then hB D; clear D))
    all_goals (
      show wpPure _ _ _ _
      refine wpPure_step (.agg #[.int .i64 m, .slice B0 p.length d0, .slice B1 tl.length d1, .slice B2 td.length d2]) rfl (fun u => by first | rfl | simp [execOp, go_sem] | kernel_rfl) ?_
      intro ks hks hall hH
      obtain ⟨k1, rfl⟩ : ∃ k1, ks = [some k1] := by
        match ks, hks with
        | [none], _ => exact absurd rfl (hall 0)
        | [some k1], _ => exact ⟨k1, rfl⟩
      obtain ⟨o1, ge1, lt1⟩ := hH.obj 0 k1 rfl
      rw [show ([Obj.cells #[.int .i64 0, .slice none 0 0, .slice none 0 0, .slice none 0 0] 54])[0]? = some (.cells #[.int .i64 0, .slice none 0 0, .slice none 0 0, .slice none 0 0] 54) from rfl] at o1
      clear hH hall hks
      show wpList _ _ _ _ _ _
      simp only [deco, ptrV]
      refine wpList_store_rowTo rfl 54 _ _ rfl rfl k1 #[.int .i64 m, .slice B0 p.length d0, .slice B1 tl.length d1, .slice B2 td.length d2] rfl rfl 54 _ o1 (by kernel_rfl) (by rfl) (by kernel_rfl) ?_
      go_wp2_with fail
      go_meet
      exact ⟨k1, B0, B1, B2, d0, d1, d2, rfl, setRow_heap _ _ _ _ _ _ o1, (setRow_other _ _ _ _ (show _ ≠ k1 by omega)).trans br, by omega, own_setRowX q5 o1 (by decide) _, own_setRowX q10 o1 (by decide) _, own_setRowX q15 o1 (by decide) _, below_setRow hB (by omega) _⟩)
  case rest =>
    clear br hB bc
    obtain ⟨g, B0, B1, B2, d0, d1, d2, rfl, bo, br, hg, q0, q1, q2, hB⟩ := hcut
    have hrr : (a : Int) % 5 = 0 ∨ (a : Int) % 5 = 1 ∨ (a : Int) % 5 = 2 ∨ (a : Int) % 5 = 3 ∨ (a : Int) % 5 = 4 := by omega
    rcases hrr with har | har | har | har | har
    · have f4 := Joins.unfrozen_of_block bo 0
      have cbo0 := Joins.cell_of_block bo 0
      have cbo1 := Joins.cell_of_block bo 1
      have cbo2 := Joins.cell_of_block bo 2
      have cbo3 := Joins.cell_of_block bo 3
      have zbo := size_of_block bo
      have bo2 : (wc.setCell ⟨g, 0, none⟩ (.int .i64 (wrap64 (m + n)))).heap[g]? = some (.cells #[.int .i64 (wrap64 (m + n)), .slice B0 p.length d0, .slice B1 tl.length d1, .slice B2 td.length d2] 54) := (Joins.block_setCell (i := 0) bo (.int .i64 (wrap64 (m + n)))).trans rfl
      have br2 := (put_other (i := 0) (.int .i64 (wrap64 (m + n))) (show w.heap.size + 1 ≠ g by omega)).trans br
      have r0 := own_setCell q0 0 (.int .i64 (wrap64 (m + n))) (own_ne_block q0 bo (by decide))
      have r1 := own_setCell q1 0 (.int .i64 (wrap64 (m + n))) (own_ne_block q1 bo (by decide))
      have r2 := own_setCell q2 0 (.int .i64 (wrap64 (m + n))) (own_ne_block q2 bo (by decide))
      have hB2 := below_set (i := 0) (v := .int .i64 (wrap64 (m + n))) hB (show w.heap.size ≤ g by omega)
      have HPP := Lib.hid (fun j : Nat => cell_setRow_same (wc.setCell ⟨g, 0, none⟩ (.int .i64 (wrap64 (m + n)))) (w.heap.size + 1) j _ #[.int .i64 (wrap64 (m + n)), .slice B0 p.length d0, .slice B1 tl.length d1, .slice B2 td.length d2] _ _ br2)
      have hBF := below_setRow hB2 (show w.heap.size ≤ w.heap.size + 1 by omega) #[.int .i64 (wrap64 (m + n)), .slice B0 p.length d0, .slice B1 tl.length d1, .slice B2 td.length d2]
      have HJ0 := Lib.hid (Ints.of_own (own_setRowX r0 br2 (by decide) #[.int .i64 (wrap64 (m + n)), .slice B0 p.length d0, .slice B1 tl.length d1, .slice B2 td.length d2]) (by omega))
      have HJ1 := Lib.hid (Ints.of_own (own_setRowX r1 br2 (by decide) #[.int .i64 (wrap64 (m + n)), .slice B0 p.length d0, .slice B1 tl.length d1, .slice B2 td.length d2]) (by omega))
      have HJ2 := Lib.hid (Ints.of_own (own_setRowX r2 br2 (by decide) #[.int .i64 (wrap64 (m + n)), .slice B0 p.length d0, .slice B1 tl.length d1, .slice B2 td.length d2]) (by omega))
      have HBF := Lib.hid hBF
      clear hBF
      have cbp0 := Joins.cell_of_block bo2 0
      have cbp1 := Joins.cell_of_block bo2 1
      have cbp2 := Joins.cell_of_block bo2 2
      have cbp3 := Joins.cell_of_block bo2 3
      have zbp := size_of_block bo2
      go_wp2_with (first | (refine wpList_store_rowTo rfl 54 _ _ rfl rfl (w.heap.size + 1) #[.int .i64 (wrap64 (m + n)), .slice B0 p.length d0, .slice B1 tl.length d1, .slice B2 td.length d2] rfl rfl 54 _ br2 (by kernel_rfl) rfl (by kernel_rfl) ?_))
      all_goals (try (exfalso; omega))
      refine bodyPost_ret (v := .agg #[.int .i64 (wrap64 (m + n)), .slice B0 p.length d0, .slice B1 tl.length d1, .slice B2 td.length d2]) ?_ rfl ⟨_, _, _, _, _, _, _, _, _, _, rfl, ⟨HJ0.out, _, _, rfl, HJ1.out, HJ2.out⟩, HBF.out⟩
      simp [results, Tryz.results33, go_sem, HPP.out]
    · by_cases hp0 : 0 < p.length
      · obtain ⟨gP, rfl, hgP, hgs, hcd⟩ := own_slot q0 hp0
        have hne : gP ≠ g := fun h => own_ne_block q0 bo (by decide) (by rw [h]; rfl)
        have hnr : gP ≠ w.heap.size + 1 := fun h => own_ne_block q0 br (by decide) (by rw [h]; rfl)
        obtain ⟨ix, hix⟩ : ∃ x, x = a / 5 % p.length := ⟨_, rfl⟩
        have hil : ix < p.length := by rw [hix]; exact Nat.mod_lt _ hp0
        have hrm : ((a : Int) / 5).tmod (p.length : Int) = (ix : Int) := by rw [Int.tmod_eq_emod_of_nonneg (by omega), hix]; simp
        clear hix
        have hpn : ¬ p = [] := by intro h; rw [h] at hp0; simp at hp0
        obtain ⟨zz, hzz⟩ : ∃ x, p[ix]? = some x := ⟨_, List.getElem?_eq_getElem hil⟩
        have HZ := Lib.hid hzz
        clear hzz
        have cbo0 := Joins.cell_of_block bo 0
        have cbo1 := Joins.cell_of_block bo 1
        have cbo2 := Joins.cell_of_block bo 2
        have cbo3 := Joins.cell_of_block bo 3
        have zbo := size_of_block bo
        go_wp2_with fail
        all_goals (try (exfalso; omega))
        clear cbo0 cbo1 cbo2 cbo3 zbo
        refine wp_region_looseM [] [0, 1, 2, 3, 4, 5, 6, 7, 8] .done [] [] [9] [] [] (by kernel_rfl) (by kernel_rfl) (by intro c a d v w h; cases d <;> exact h) (by intro c a d v w h; cases d <;> exact h) rfl (fun r i h => by simp at h) ?_
        simp only [pick, List.filterMap_cons, List.filterMap_nil, List.getElem?_toArray, List.getElem?_cons_succ, List.getElem?_cons_zero]
        intro U hu
        replace bo := (hu.block _ (size_of_block bo)).trans bo
        replace br := (hu.block _ (size_of_block br)).trans br
        replace q0 := own_later q0 hu
        replace q1 := own_later q1 hu
        replace q2 := own_later q2 hu
        replace hB := below_then hB hu
        replace hgs := Nat.lt_of_lt_of_le hgs hu.size
        clear hu
        have cbo0 := Joins.cell_of_block bo 0
        have cbo1 := Joins.cell_of_block bo 1
        have cbo2 := Joins.cell_of_block bo 2
        have cbo3 := Joins.cell_of_block bo 3
        have zbo := size_of_block bo
        have cz := (q0.cellAt ix (by omega)).trans (show (p.map (Value.int .i64))[ix]? = some (.int .i64 zz) by rw [List.getElem?_map, HZ.out]; rfl)
        have hcg : ∀ (g : Gr U) b o, b < U.heap.size → g.val.cell? ⟨b, o, none⟩ = U.cell? ⟨b, o, none⟩ := fun g b o h => (bcell g.b).1 b o h
        refine wpRel_step (fun K hK => ?_); go_simp; refine hK _ ?_; clear hK K
        refine wpRel_step (fun K hK => ?_); go_simp; refine hK _ ?_; clear hK K
        refine wpRel_step (fun K hK => ?_); go_simp; refine hK _ ?_; clear hK K
        refine wpRel_step (fun K hK => ?_); go_simp; refine hK _ ?_; clear hK K
        refine wpRel_step (fun K hK => ?_); go_simp; refine hK _ ?_; clear hK K
        refine wpRel_step (fun K hK => ?_); go_simp; refine hK _ ?_; clear hK K
        refine wpRel_val (.int .i64 ix) (by kernel_rfl) (fun g => by simp [execOp, go_sem, hrm, hpn]) ?_
        refine wpRel_step (fun K hK => ?_); go_simp; refine hK _ ?_; clear hK K
        refine wpRel_step (fun K hK => ?_); go_simp; refine hK _ ?_; clear hK K
        refine wpRel_nil fun V hb => ?_
        clear hcg cz
        clear cbo0 cbo1 cbo2 cbo3 zbo
        replace bo := (hb.block _ (size_of_block bo)).trans bo
        replace br := (hb.block _ (size_of_block br)).trans br
        replace q0 := own_later q0 hb
        replace q1 := own_later q1 hb
        replace q2 := own_later q2 hb
        replace hB := below_then hB hb
        replace hgs := Nat.lt_of_lt_of_le hgs hb.size
        clear hb
        show wpPure _ _ _ _
        intro ks hks _ _
        obtain rfl : ks = [] := List.length_eq_zero_iff.1 hks
        clear hks
        show wpList _ _ _ _ _ _
        simp only [deco]
        have cz := (q0.cellAt ix (by omega)).trans (show (p.map (Value.int .i64))[ix]? = some (.int .i64 zz) by rw [List.getElem?_map, HZ.out]; rfl)
        have fz := q0.frozenAt ix
        have br2 := (put_other (i := ix) (.int .i64 n) (Ne.symm hnr)).trans br
        have bo2 := (put_other (i := ix) (.int .i64 n) (Ne.symm hne)).trans bo
        have hB2 := below_set (i := ix) (v := .int .i64 n) hB hgP
        obtain ⟨l0, e0, r0⟩ := own_any q0 gP ix n
        obtain ⟨l1, e1, r1⟩ := own_any q1 gP ix n
        obtain ⟨l2, e2, r2⟩ := own_any q2 gP ix n
        have HPP := Lib.hid (fun j : Nat => cell_setRow_same (V.setCell ⟨gP, ix, none⟩ (.int .i64 n)) (w.heap.size + 1) j _ #[.int .i64 m, .slice (some ⟨gP, 0, none⟩) p.length d0, .slice B1 tl.length d1, .slice B2 td.length d2] _ _ br2)
        have hBF := below_setRow hB2 (show w.heap.size ≤ w.heap.size + 1 by omega) #[.int .i64 m, .slice (some ⟨gP, 0, none⟩) p.length d0, .slice B1 tl.length d1, .slice B2 td.length d2]
        have HJ0 := Lib.hid (Ints.of_own (own_setRowX r0 br2 (by decide) #[.int .i64 m, .slice (some ⟨gP, 0, none⟩) p.length d0, .slice B1 tl.length d1, .slice B2 td.length d2]) (by omega))
        have HJ1 := Lib.hid (Ints.of_own (own_setRowX r1 br2 (by decide) #[.int .i64 m, .slice (some ⟨gP, 0, none⟩) p.length d0, .slice B1 tl.length d1, .slice B2 td.length d2]) (by omega))
        have HJ2 := Lib.hid (Ints.of_own (own_setRowX r2 br2 (by decide) #[.int .i64 m, .slice (some ⟨gP, 0, none⟩) p.length d0, .slice B1 tl.length d1, .slice B2 td.length d2]) (by omega))
        have HBF := Lib.hid hBF
        have HE := Lib.hid (⟨e0, e1, e2⟩ : l0.length = p.length ∧ l1.length = tl.length ∧ l2.length = td.length)
        clear hBF e0 e1 e2 r0 r1 r2
        have cbp0 := Joins.cell_of_block bo2 0
        have cbp1 := Joins.cell_of_block bo2 1
        have cbp2 := Joins.cell_of_block bo2 2
        have cbp3 := Joins.cell_of_block bo2 3
        have zbp := size_of_block bo2
        go_wp2_with (first | (refine wpList_store_rowTo rfl 54 _ _ rfl rfl (w.heap.size + 1) #[.int .i64 m, .slice (some ⟨gP, 0, none⟩) p.length d0, .slice B1 tl.length d1, .slice B2 td.length d2] rfl rfl 54 _ br2 (by kernel_rfl) rfl (by kernel_rfl) ?_))
        all_goals (try (exfalso; omega))
        refine bodyPost_ret (v := .agg #[.int .i64 m, .slice (some ⟨gP, 0, none⟩) p.length d0, .slice B1 tl.length d1, .slice B2 td.length d2]) ?_ rfl ⟨m, (some ⟨gP, 0, none⟩), B1, B2, d0, d1, d2, l0, l1, l2, by rw [HE.out.1, HE.out.2.1, HE.out.2.2], ⟨by rw [HE.out.1]; exact HJ0.out, _, _, rfl, by rw [HE.out.2.1]; exact HJ1.out, by rw [HE.out.2.2]; exact HJ2.out⟩, HBF.out⟩
        simp [results, Tryz.results33, go_sem, HPP.out]
      · have bo2 := bo
        have br2 := br
        have hB2 := hB
        have HPP := Lib.hid (fun j : Nat => cell_setRow_same wc (w.heap.size + 1) j _ #[.int .i64 m, .slice B0 p.length d0, .slice B1 tl.length d1, .slice B2 td.length d2] _ _ br2)
        have hBF := below_setRow hB2 (show w.heap.size ≤ w.heap.size + 1 by omega) #[.int .i64 m, .slice B0 p.length d0, .slice B1 tl.length d1, .slice B2 td.length d2]
        have HJ0 := Lib.hid (Ints.of_own (own_setRowX q0 br2 (by decide) #[.int .i64 m, .slice B0 p.length d0, .slice B1 tl.length d1, .slice B2 td.length d2]) (by omega))
        have HJ1 := Lib.hid (Ints.of_own (own_setRowX q1 br2 (by decide) #[.int .i64 m, .slice B0 p.length d0, .slice B1 tl.length d1, .slice B2 td.length d2]) (by omega))
        have HJ2 := Lib.hid (Ints.of_own (own_setRowX q2 br2 (by decide) #[.int .i64 m, .slice B0 p.length d0, .slice B1 tl.length d1, .slice B2 td.length d2]) (by omega))
        have HBF := Lib.hid hBF
        clear hBF
        have cbp0 := Joins.cell_of_block bo2 0
        have cbp1 := Joins.cell_of_block bo2 1
        have cbp2 := Joins.cell_of_block bo2 2
        have cbp3 := Joins.cell_of_block bo2 3
        have zbp := size_of_block bo2
        go_wp2_with (first | (refine wpList_store_rowTo rfl 54 _ _ rfl rfl (w.heap.size + 1) #[.int .i64 m, .slice B0 p.length d0, .slice B1 tl.length d1, .slice B2 td.length d2] rfl rfl 54 _ br2 (by kernel_rfl) rfl (by kernel_rfl) ?_))
        all_goals (try (exfalso; omega))
        refine bodyPost_ret (v := .agg #[.int .i64 m, .slice B0 p.length d0, .slice B1 tl.length d1, .slice B2 td.length d2]) ?_ rfl ⟨_, _, _, _, _, _, _, _, _, _, rfl, ⟨HJ0.out, _, _, rfl, HJ1.out, HJ2.out⟩, HBF.out⟩
        simp [results, Tryz.results33, go_sem, HPP.out]
    · by_cases hp0 : 0 < p.length
      · obtain ⟨gP, rfl, hgP, hgs, hcd⟩ := own_slot q0 hp0
        have hj1 : (1 : Int) ≤ p.length := by omega
        have hj2 : (1 : Int) ≤ d0 := by omega
        by_cases hd : d0 = 1
        · subst hd
          have hp1 : p.length = 1 := by omega
          have f4 := Joins.unfrozen_of_block bo 1
          have cbo0 := Joins.cell_of_block bo 0
          have cbo1 := Joins.cell_of_block bo 1
          have cbo2 := Joins.cell_of_block bo 2
          have cbo3 := Joins.cell_of_block bo 3
          have zbo := size_of_block bo
          have bo2 : (wc.setCell ⟨g, 1, none⟩ (.slice (some ⟨gP, 0, none⟩) 0 0)).heap[g]? = some (.cells #[.int .i64 m, .slice (some ⟨gP, 0, none⟩) 0 0, .slice B1 tl.length d1, .slice B2 td.length d2] 54) := (Joins.block_setCell (i := 1) bo (.slice (some ⟨gP, 0, none⟩) 0 0)).trans rfl
          have br2 := (put_other (i := 1) (.slice (some ⟨gP, 0, none⟩) 0 0) (show w.heap.size + 1 ≠ g by omega)).trans br
          have r0 := own_setCell q0 1 (.slice (some ⟨gP, 0, none⟩) 0 0) (own_ne_block q0 bo (by decide))
          have r1 := own_setCell q1 1 (.slice (some ⟨gP, 0, none⟩) 0 0) (own_ne_block q1 bo (by decide))
          have r2 := own_setCell q2 1 (.slice (some ⟨gP, 0, none⟩) 0 0) (own_ne_block q2 bo (by decide))
          have hB2 := below_set (i := 1) (v := .slice (some ⟨gP, 0, none⟩) 0 0) hB (show w.heap.size ≤ g by omega)
          have HPP := Lib.hid (fun j : Nat => cell_setRow_same (wc.setCell ⟨g, 1, none⟩ (.slice (some ⟨gP, 0, none⟩) 0 0)) (w.heap.size + 1) j _ #[.int .i64 m, .slice (some ⟨gP, 0, none⟩) 0 0, .slice B1 tl.length d1, .slice B2 td.length d2] _ _ br2)
          have hBF := below_setRow hB2 (show w.heap.size ≤ w.heap.size + 1 by omega) #[.int .i64 m, .slice (some ⟨gP, 0, none⟩) 0 0, .slice B1 tl.length d1, .slice B2 td.length d2]
          have HJ0 := Lib.hid (ints_zero ((wc.setCell ⟨g, 1, none⟩ (.slice (some ⟨gP, 0, none⟩) 0 0)).setRow (w.heap.size + 1) #[.int .i64 m, .slice (some ⟨gP, 0, none⟩) 0 0, .slice B1 tl.length d1, .slice B2 td.length d2]) ((wc.setCell ⟨g, 1, none⟩ (.slice (some ⟨gP, 0, none⟩) 0 0)).setRow (w.heap.size + 1) #[.int .i64 m, .slice (some ⟨gP, 0, none⟩) 0 0, .slice B1 tl.length d1, .slice B2 td.length d2]).heap.size (some ⟨gP, 0, none⟩) 0)
          have HJ1 := Lib.hid (Ints.of_own (own_setRowX r1 br2 (by decide) #[.int .i64 m, .slice (some ⟨gP, 0, none⟩) 0 0, .slice B1 tl.length d1, .slice B2 td.length d2]) (by omega))
          have HJ2 := Lib.hid (Ints.of_own (own_setRowX r2 br2 (by decide) #[.int .i64 m, .slice (some ⟨gP, 0, none⟩) 0 0, .slice B1 tl.length d1, .slice B2 td.length d2]) (by omega))
          have HBF := Lib.hid hBF
          clear hBF
          have cbp0 := Joins.cell_of_block bo2 0
          have cbp1 := Joins.cell_of_block bo2 1
          have cbp2 := Joins.cell_of_block bo2 2
          have cbp3 := Joins.cell_of_block bo2 3
          have zbp := size_of_block bo2
          go_wp2_with (first | (refine wpList_store_rowTo rfl 54 _ _ rfl rfl (w.heap.size + 1) #[.int .i64 m, .slice (some ⟨gP, 0, none⟩) 0 0, .slice B1 tl.length d1, .slice B2 td.length d2] rfl rfl 54 _ br2 (by kernel_rfl) rfl (by kernel_rfl) ?_))
          all_goals (try (exfalso; omega))
          refine bodyPost_ret (v := .agg #[.int .i64 m, .slice (some ⟨gP, 0, none⟩) 0 0, .slice B1 tl.length d1, .slice B2 td.length d2]) ?_ rfl ⟨m, some ⟨gP, 0, none⟩, B1, B2, 0, d1, d2, [], tl, td, rfl, ⟨HJ0.out, _, _, rfl, HJ1.out, HJ2.out⟩, HBF.out⟩
          simp [results, Tryz.results33, go_sem, HPP.out]
        · have hd2 : ¬ d0 = 1 := hd
          have f4 := Joins.unfrozen_of_block bo 1
          have cbo0 := Joins.cell_of_block bo 0
          have cbo1 := Joins.cell_of_block bo 1
          have cbo2 := Joins.cell_of_block bo 2
          have cbo3 := Joins.cell_of_block bo 3
          have zbo := size_of_block bo
          have bo2 : (wc.setCell ⟨g, 1, none⟩ (.slice (some ⟨gP, 1, none⟩) (p.length - 1) (d0 - 1))).heap[g]? = some (.cells #[.int .i64 m, .slice (some ⟨gP, 1, none⟩) (p.length - 1) (d0 - 1), .slice B1 tl.length d1, .slice B2 td.length d2] 54) := (Joins.block_setCell (i := 1) bo (.slice (some ⟨gP, 1, none⟩) (p.length - 1) (d0 - 1))).trans rfl
          have br2 := (put_other (i := 1) (.slice (some ⟨gP, 1, none⟩) (p.length - 1) (d0 - 1)) (show w.heap.size + 1 ≠ g by omega)).trans br
          have r0 := own_setCell q0 1 (.slice (some ⟨gP, 1, none⟩) (p.length - 1) (d0 - 1)) (own_ne_block q0 bo (by decide))
          have r1 := own_setCell q1 1 (.slice (some ⟨gP, 1, none⟩) (p.length - 1) (d0 - 1)) (own_ne_block q1 bo (by decide))
          have r2 := own_setCell q2 1 (.slice (some ⟨gP, 1, none⟩) (p.length - 1) (d0 - 1)) (own_ne_block q2 bo (by decide))
          have hB2 := below_set (i := 1) (v := .slice (some ⟨gP, 1, none⟩) (p.length - 1) (d0 - 1)) hB (show w.heap.size ≤ g by omega)
          have HPP := Lib.hid (fun j : Nat => cell_setRow_same (wc.setCell ⟨g, 1, none⟩ (.slice (some ⟨gP, 1, none⟩) (p.length - 1) (d0 - 1))) (w.heap.size + 1) j _ #[.int .i64 m, .slice (some ⟨gP, 1, none⟩) (p.length - 1) (d0 - 1), .slice B1 tl.length d1, .slice B2 td.length d2] _ _ br2)
          have hBF := below_setRow hB2 (show w.heap.size ≤ w.heap.size + 1 by omega) #[.int .i64 m, .slice (some ⟨gP, 1, none⟩) (p.length - 1) (d0 - 1), .slice B1 tl.length d1, .slice B2 td.length d2]
          have HJ0 := Lib.hid ((by by_cases h : 1 < p.length; (have h9 := ints_drop (j := 1) (Ints.of_own (own_setRowX r0 br2 (by decide) #[.int .i64 m, .slice (some ⟨gP, 1, none⟩) (p.length - 1) (d0 - 1), .slice B1 tl.length d1, .slice B2 td.length d2]) (by omega)) h; rw [Nat.zero_add] at h9; exact h9); exact ints_dropped _ _ 1 _ _ p (by omega) : Ints ((wc.setCell ⟨g, 1, none⟩ (.slice (some ⟨gP, 1, none⟩) (p.length - 1) (d0 - 1))).setRow (w.heap.size + 1) #[.int .i64 m, .slice (some ⟨gP, 1, none⟩) (p.length - 1) (d0 - 1), .slice B1 tl.length d1, .slice B2 td.length d2]) ((wc.setCell ⟨g, 1, none⟩ (.slice (some ⟨gP, 1, none⟩) (p.length - 1) (d0 - 1))).setRow (w.heap.size + 1) #[.int .i64 m, .slice (some ⟨gP, 1, none⟩) (p.length - 1) (d0 - 1), .slice B1 tl.length d1, .slice B2 td.length d2]).heap.size (.slice (some ⟨gP, 1, none⟩) (p.drop 1).length (d0 - 1)) (p.drop 1)))
          have HJ1 := Lib.hid (Ints.of_own (own_setRowX r1 br2 (by decide) #[.int .i64 m, .slice (some ⟨gP, 1, none⟩) (p.length - 1) (d0 - 1), .slice B1 tl.length d1, .slice B2 td.length d2]) (by omega))
          have HJ2 := Lib.hid (Ints.of_own (own_setRowX r2 br2 (by decide) #[.int .i64 m, .slice (some ⟨gP, 1, none⟩) (p.length - 1) (d0 - 1), .slice B1 tl.length d1, .slice B2 td.length d2]) (by omega))
          have HBF := Lib.hid hBF
          clear hBF
          have cbp0 := Joins.cell_of_block bo2 0
          have cbp1 := Joins.cell_of_block bo2 1
          have cbp2 := Joins.cell_of_block bo2 2
          have cbp3 := Joins.cell_of_block bo2 3
          have zbp := size_of_block bo2
          go_wp2_with (first | (refine wpList_store_rowTo rfl 54 _ _ rfl rfl (w.heap.size + 1) #[.int .i64 m, .slice (some ⟨gP, 1, none⟩) (p.length - 1) (d0 - 1), .slice B1 tl.length d1, .slice B2 td.length d2] rfl rfl 54 _ br2 (by kernel_rfl) rfl (by kernel_rfl) ?_))
          all_goals (try (exfalso; omega))
          refine bodyPost_ret (v := .agg #[.int .i64 m, .slice (some ⟨gP, 1, none⟩) (p.length - 1) (d0 - 1), .slice B1 tl.length d1, .slice B2 td.length d2]) ?_ rfl ⟨m, some ⟨gP, 1, none⟩, B1, B2, d0 - 1, d1, d2, p.drop 1, tl, td, by rw [List.length_drop], ⟨HJ0.out, _, _, rfl, HJ1.out, HJ2.out⟩, HBF.out⟩
          simp [results, Tryz.results33, go_sem, HPP.out]
      · have bo2 := bo
        have br2 := br
        have hB2 := hB
        have HPP := Lib.hid (fun j : Nat => cell_setRow_same wc (w.heap.size + 1) j _ #[.int .i64 m, .slice B0 p.length d0, .slice B1 tl.length d1, .slice B2 td.length d2] _ _ br2)
        have hBF := below_setRow hB2 (show w.heap.size ≤ w.heap.size + 1 by omega) #[.int .i64 m, .slice B0 p.length d0, .slice B1 tl.length d1, .slice B2 td.length d2]
        have HJ0 := Lib.hid (Ints.of_own (own_setRowX q0 br2 (by decide) #[.int .i64 m, .slice B0 p.length d0, .slice B1 tl.length d1, .slice B2 td.length d2]) (by omega))
        have HJ1 := Lib.hid (Ints.of_own (own_setRowX q1 br2 (by decide) #[.int .i64 m, .slice B0 p.length d0, .slice B1 tl.length d1, .slice B2 td.length d2]) (by omega))
        have HJ2 := Lib.hid (Ints.of_own (own_setRowX q2 br2 (by decide) #[.int .i64 m, .slice B0 p.length d0, .slice B1 tl.length d1, .slice B2 td.length d2]) (by omega))
        have HBF := Lib.hid hBF
        clear hBF
        have cbp0 := Joins.cell_of_block bo2 0
        have cbp1 := Joins.cell_of_block bo2 1
        have cbp2 := Joins.cell_of_block bo2 2
        have cbp3 := Joins.cell_of_block bo2 3
        have zbp := size_of_block bo2
        go_wp2_with (first | (refine wpList_store_rowTo rfl 54 _ _ rfl rfl (w.heap.size + 1) #[.int .i64 m, .slice B0 p.length d0, .slice B1 tl.length d1, .slice B2 td.length d2] rfl rfl 54 _ br2 (by kernel_rfl) rfl (by kernel_rfl) ?_))
        all_goals (try (exfalso; omega))
        refine bodyPost_ret (v := .agg #[.int .i64 m, .slice B0 p.length d0, .slice B1 tl.length d1, .slice B2 td.length d2]) ?_ rfl ⟨_, _, _, _, _, _, _, _, _, _, rfl, ⟨HJ0.out, _, _, rfl, HJ1.out, HJ2.out⟩, HBF.out⟩
        simp [results, Tryz.results33, go_sem, HPP.out]
    · by_cases hp0 : 0 < tl.length
      · obtain ⟨gP, rfl, hgP, hgs, hcd⟩ := own_slot q1 hp0
        have hne : gP ≠ g := fun h => own_ne_block q1 bo (by decide) (by rw [h]; rfl)
        have hnr : gP ≠ w.heap.size + 1 := fun h => own_ne_block q1 br (by decide) (by rw [h]; rfl)
        obtain ⟨ix, hix⟩ : ∃ x, x = a / 5 % tl.length := ⟨_, rfl⟩
        have hil : ix < tl.length := by rw [hix]; exact Nat.mod_lt _ hp0
        have hrm : ((a : Int) / 5).tmod (tl.length : Int) = (ix : Int) := by rw [Int.tmod_eq_emod_of_nonneg (by omega), hix]; simp
        clear hix
        have hpn : ¬ tl = [] := by intro h; rw [h] at hp0; simp at hp0
        obtain ⟨zz, hzz⟩ : ∃ x, tl[ix]? = some x := ⟨_, List.getElem?_eq_getElem hil⟩
        have HZ := Lib.hid hzz
        clear hzz
        have cbo0 := Joins.cell_of_block bo 0
        have cbo1 := Joins.cell_of_block bo 1
        have cbo2 := Joins.cell_of_block bo 2
        have cbo3 := Joins.cell_of_block bo 3
        have zbo := size_of_block bo
        go_wp2_with fail
        all_goals (try (exfalso; omega))
        clear cbo0 cbo1 cbo2 cbo3 zbo
        refine wp_region_looseM [] [0, 1, 2, 3, 4, 5, 6, 7, 8, 9, 10, 11, 12, 13] .done [] [] [14] [] [] (by kernel_rfl) (by kernel_rfl) (by intro c a d v w h; cases d <;> exact h) (by intro c a d v w h; cases d <;> exact h) rfl (fun r i h => by simp at h) ?_
        simp only [pick, List.filterMap_cons, List.filterMap_nil, List.getElem?_toArray, List.getElem?_cons_succ, List.getElem?_cons_zero]
        intro U hu
        replace bo := (hu.block _ (size_of_block bo)).trans bo
        replace br := (hu.block _ (size_of_block br)).trans br
        replace q0 := own_later q0 hu
        replace q1 := own_later q1 hu
        replace q2 := own_later q2 hu
        replace hB := below_then hB hu
        replace hgs := Nat.lt_of_lt_of_le hgs hu.size
        clear hu
        have cbo0 := Joins.cell_of_block bo 0
        have cbo1 := Joins.cell_of_block bo 1
        have cbo2 := Joins.cell_of_block bo 2
        have cbo3 := Joins.cell_of_block bo 3
        have zbo := size_of_block bo
        have cz := (q1.cellAt ix (by omega)).trans (show (tl.map (Value.int .i64))[ix]? = some (.int .i64 zz) by rw [List.getElem?_map, HZ.out]; rfl)
        have hcg : ∀ (g : Gr U) b o, b < U.heap.size → g.val.cell? ⟨b, o, none⟩ = U.cell? ⟨b, o, none⟩ := fun g b o h => (bcell g.b).1 b o h
        refine wpRel_step (fun K hK => ?_); go_simp; refine hK _ ?_; clear hK K
        refine wpRel_step (fun K hK => ?_); go_simp; refine hK _ ?_; clear hK K
        refine wpRel_step (fun K hK => ?_); go_simp; refine hK _ ?_; clear hK K
        refine wpRel_step (fun K hK => ?_); go_simp; refine hK _ ?_; clear hK K
        refine wpRel_step (fun K hK => ?_); go_simp; refine hK _ ?_; clear hK K
        refine wpRel_step (fun K hK => ?_); go_simp; refine hK _ ?_; clear hK K
        refine wpRel_step (fun K hK => ?_); go_simp; refine hK _ ?_; clear hK K
        refine wpRel_step (fun K hK => ?_); go_simp; refine hK _ ?_; clear hK K
        refine wpRel_val (.int .i64 ix) (by kernel_rfl) (fun g => by simp [execOp, go_sem, hrm, hpn]) ?_
        refine wpRel_step (fun K hK => ?_); go_simp; refine hK _ ?_; clear hK K
        refine wpRel_step (fun K hK => ?_); go_simp; refine hK _ ?_; clear hK K
        refine wpRel_step (fun K hK => ?_); go_simp; refine hK _ ?_; clear hK K
        refine wpRel_step (fun K hK => ?_); go_simp; refine hK _ ?_; clear hK K
        refine wpRel_step (fun K hK => ?_); go_simp; refine hK _ ?_; clear hK K
        refine wpRel_nil fun V hb => ?_
        clear hcg cz
        clear cbo0 cbo1 cbo2 cbo3 zbo
        replace bo := (hb.block _ (size_of_block bo)).trans bo
        replace br := (hb.block _ (size_of_block br)).trans br
        replace q0 := own_later q0 hb
        replace q1 := own_later q1 hb
        replace q2 := own_later q2 hb
        replace hB := below_then hB hb
        replace hgs := Nat.lt_of_lt_of_le hgs hb.size
        clear hb
        show wpPure _ _ _ _
        intro ks hks _ _
        obtain rfl : ks = [] := List.length_eq_zero_iff.1 hks
        clear hks
        show wpList _ _ _ _ _ _
        simp only [deco]
        have cz := (q1.cellAt ix (by omega)).trans (show (tl.map (Value.int .i64))[ix]? = some (.int .i64 zz) by rw [List.getElem?_map, HZ.out]; rfl)
        have fz := q1.frozenAt ix
        have br2 := (put_other (i := ix) (.int .i64 (wrap64 (zz + n))) (Ne.symm hnr)).trans br
        have bo2 := (put_other (i := ix) (.int .i64 (wrap64 (zz + n))) (Ne.symm hne)).trans bo
        have hB2 := below_set (i := ix) (v := .int .i64 (wrap64 (zz + n))) hB hgP
        obtain ⟨l0, e0, r0⟩ := own_any q0 gP ix (wrap64 (zz + n))
        obtain ⟨l1, e1, r1⟩ := own_any q1 gP ix (wrap64 (zz + n))
        obtain ⟨l2, e2, r2⟩ := own_any q2 gP ix (wrap64 (zz + n))
        have HPP := Lib.hid (fun j : Nat => cell_setRow_same (V.setCell ⟨gP, ix, none⟩ (.int .i64 (wrap64 (zz + n)))) (w.heap.size + 1) j _ #[.int .i64 m, .slice B0 p.length d0, .slice (some ⟨gP, 0, none⟩) tl.length d1, .slice B2 td.length d2] _ _ br2)
        have hBF := below_setRow hB2 (show w.heap.size ≤ w.heap.size + 1 by omega) #[.int .i64 m, .slice B0 p.length d0, .slice (some ⟨gP, 0, none⟩) tl.length d1, .slice B2 td.length d2]
        have HJ0 := Lib.hid (Ints.of_own (own_setRowX r0 br2 (by decide) #[.int .i64 m, .slice B0 p.length d0, .slice (some ⟨gP, 0, none⟩) tl.length d1, .slice B2 td.length d2]) (by omega))
        have HJ1 := Lib.hid (Ints.of_own (own_setRowX r1 br2 (by decide) #[.int .i64 m, .slice B0 p.length d0, .slice (some ⟨gP, 0, none⟩) tl.length d1, .slice B2 td.length d2]) (by omega))
        have HJ2 := Lib.hid (Ints.of_own (own_setRowX r2 br2 (by decide) #[.int .i64 m, .slice B0 p.length d0, .slice (some ⟨gP, 0, none⟩) tl.length d1, .slice B2 td.length d2]) (by omega))
        have HBF := Lib.hid hBF
        have HE := Lib.hid (⟨e0, e1, e2⟩ : l0.length = p.length ∧ l1.length = tl.length ∧ l2.length = td.length)
        clear hBF e0 e1 e2 r0 r1 r2
        have cbp0 := Joins.cell_of_block bo2 0
        have cbp1 := Joins.cell_of_block bo2 1
        have cbp2 := Joins.cell_of_block bo2 2
        have cbp3 := Joins.cell_of_block bo2 3
        have zbp := size_of_block bo2
        go_wp2_with (first | (refine wpList_store_rowTo rfl 54 _ _ rfl rfl (w.heap.size + 1) #[.int .i64 m, .slice B0 p.length d0, .slice (some ⟨gP, 0, none⟩) tl.length d1, .slice B2 td.length d2] rfl rfl 54 _ br2 (by kernel_rfl) rfl (by kernel_rfl) ?_))
        all_goals (try (exfalso; omega))
        refine bodyPost_ret (v := .agg #[.int .i64 m, .slice B0 p.length d0, .slice (some ⟨gP, 0, none⟩) tl.length d1, .slice B2 td.length d2]) ?_ rfl ⟨m, B0, (some ⟨gP, 0, none⟩), B2, d0, d1, d2, l0, l1, l2, by rw [HE.out.1, HE.out.2.1, HE.out.2.2], ⟨by rw [HE.out.1]; exact HJ0.out, _, _, rfl, by rw [HE.out.2.1]; exact HJ1.out, by rw [HE.out.2.2]; exact HJ2.out⟩, HBF.out⟩
        simp [results, Tryz.results33, go_sem, HPP.out]
      · have bo2 := bo
        have br2 := br
        have hB2 := hB
        have HPP := Lib.hid (fun j : Nat => cell_setRow_same wc (w.heap.size + 1) j _ #[.int .i64 m, .slice B0 p.length d0, .slice B1 tl.length d1, .slice B2 td.length d2] _ _ br2)
        have hBF := below_setRow hB2 (show w.heap.size ≤ w.heap.size + 1 by omega) #[.int .i64 m, .slice B0 p.length d0, .slice B1 tl.length d1, .slice B2 td.length d2]
        have HJ0 := Lib.hid (Ints.of_own (own_setRowX q0 br2 (by decide) #[.int .i64 m, .slice B0 p.length d0, .slice B1 tl.length d1, .slice B2 td.length d2]) (by omega))
        have HJ1 := Lib.hid (Ints.of_own (own_setRowX q1 br2 (by decide) #[.int .i64 m, .slice B0 p.length d0, .slice B1 tl.length d1, .slice B2 td.length d2]) (by omega))
        have HJ2 := Lib.hid (Ints.of_own (own_setRowX q2 br2 (by decide) #[.int .i64 m, .slice B0 p.length d0, .slice B1 tl.length d1, .slice B2 td.length d2]) (by omega))
        have HBF := Lib.hid hBF
        clear hBF
        have cbp0 := Joins.cell_of_block bo2 0
        have cbp1 := Joins.cell_of_block bo2 1
        have cbp2 := Joins.cell_of_block bo2 2
        have cbp3 := Joins.cell_of_block bo2 3
        have zbp := size_of_block bo2
        go_wp2_with (first | (refine wpList_store_rowTo rfl 54 _ _ rfl rfl (w.heap.size + 1) #[.int .i64 m, .slice B0 p.length d0, .slice B1 tl.length d1, .slice B2 td.length d2] rfl rfl 54 _ br2 (by kernel_rfl) rfl (by kernel_rfl) ?_))
        all_goals (try (exfalso; omega))
        refine bodyPost_ret (v := .agg #[.int .i64 m, .slice B0 p.length d0, .slice B1 tl.length d1, .slice B2 td.length d2]) ?_ rfl ⟨_, _, _, _, _, _, _, _, _, _, rfl, ⟨HJ0.out, _, _, rfl, HJ1.out, HJ2.out⟩, HBF.out⟩
        simp [results, Tryz.results33, go_sem, HPP.out]
    · by_cases hp0 : 0 < td.length
      · obtain ⟨gP, rfl, hgP, hgs, hcd⟩ := own_slot q2 hp0
        have hne : gP ≠ g := fun h => own_ne_block q2 bo (by decide) (by rw [h]; rfl)
        have hnr : gP ≠ w.heap.size + 1 := fun h => own_ne_block q2 br (by decide) (by rw [h]; rfl)
        obtain ⟨ix, hix⟩ : ∃ x, x = a / 5 % td.length := ⟨_, rfl⟩
        have hil : ix < td.length := by rw [hix]; exact Nat.mod_lt _ hp0
        have hrm : ((a : Int) / 5).tmod (td.length : Int) = (ix : Int) := by rw [Int.tmod_eq_emod_of_nonneg (by omega), hix]; simp
        clear hix
        have hpn : ¬ td = [] := by intro h; rw [h] at hp0; simp at hp0
        obtain ⟨zz, hzz⟩ : ∃ x, td[ix]? = some x := ⟨_, List.getElem?_eq_getElem hil⟩
        have HZ := Lib.hid hzz
        clear hzz
        have cbo0 := Joins.cell_of_block bo 0
        have cbo1 := Joins.cell_of_block bo 1
        have cbo2 := Joins.cell_of_block bo 2
        have cbo3 := Joins.cell_of_block bo 3
        have zbo := size_of_block bo
        go_wp2_with fail
        all_goals (try (exfalso; omega))
        clear cbo0 cbo1 cbo2 cbo3 zbo
        refine wp_region_looseM [] [0, 1, 2, 3, 4, 5, 6, 7, 8, 9, 10, 11, 12, 13] .done [] [] [14] [] [] (by kernel_rfl) (by kernel_rfl) (by intro c a d v w h; cases d <;> exact h) (by intro c a d v w h; cases d <;> exact h) rfl (fun r i h => by simp at h) ?_
        simp only [pick, List.filterMap_cons, List.filterMap_nil, List.getElem?_toArray, List.getElem?_cons_succ, List.getElem?_cons_zero]
        intro U hu
        replace bo := (hu.block _ (size_of_block bo)).trans bo
        replace br := (hu.block _ (size_of_block br)).trans br
        replace q0 := own_later q0 hu
        replace q1 := own_later q1 hu
        replace q2 := own_later q2 hu
        replace hB := below_then hB hu
        replace hgs := Nat.lt_of_lt_of_le hgs hu.size
        clear hu
        have cbo0 := Joins.cell_of_block bo 0
        have cbo1 := Joins.cell_of_block bo 1
        have cbo2 := Joins.cell_of_block bo 2
        have cbo3 := Joins.cell_of_block bo 3
        have zbo := size_of_block bo
        have cz := (q2.cellAt ix (by omega)).trans (show (td.map (Value.int .i64))[ix]? = some (.int .i64 zz) by rw [List.getElem?_map, HZ.out]; rfl)
        have hcg : ∀ (g : Gr U) b o, b < U.heap.size → g.val.cell? ⟨b, o, none⟩ = U.cell? ⟨b, o, none⟩ := fun g b o h => (bcell g.b).1 b o h
        refine wpRel_step (fun K hK => ?_); go_simp; refine hK _ ?_; clear hK K
        refine wpRel_step (fun K hK => ?_); go_simp; refine hK _ ?_; clear hK K
        refine wpRel_step (fun K hK => ?_); go_simp; refine hK _ ?_; clear hK K
        refine wpRel_step (fun K hK => ?_); go_simp; refine hK _ ?_; clear hK K
        refine wpRel_step (fun K hK => ?_); go_simp; refine hK _ ?_; clear hK K
        refine wpRel_step (fun K hK => ?_); go_simp; refine hK _ ?_; clear hK K
        refine wpRel_step (fun K hK => ?_); go_simp; refine hK _ ?_; clear hK K
        refine wpRel_step (fun K hK => ?_); go_simp; refine hK _ ?_; clear hK K
        refine wpRel_val (.int .i64 ix) (by kernel_rfl) (fun g => by simp [execOp, go_sem, hrm, hpn]) ?_
        refine wpRel_step (fun K hK => ?_); go_simp; refine hK _ ?_; clear hK K
        refine wpRel_step (fun K hK => ?_); go_simp; refine hK _ ?_; clear hK K
        refine wpRel_step (fun K hK => ?_); go_simp; refine hK _ ?_; clear hK K
        refine wpRel_step (fun K hK => ?_); go_simp; refine hK _ ?_; clear hK K
        refine wpRel_step (fun K hK => ?_); go_simp; refine hK _ ?_; clear hK K
        refine wpRel_nil fun V hb => ?_
        clear hcg cz
        clear cbo0 cbo1 cbo2 cbo3 zbo
        replace bo := (hb.block _ (size_of_block bo)).trans bo
        replace br := (hb.block _ (size_of_block br)).trans br
        replace q0 := own_later q0 hb
        replace q1 := own_later q1 hb
        replace q2 := own_later q2 hb
        replace hB := below_then hB hb
        replace hgs := Nat.lt_of_lt_of_le hgs hb.size
        clear hb
        show wpPure _ _ _ _
        intro ks hks _ _
        obtain rfl : ks = [] := List.length_eq_zero_iff.1 hks
        clear hks
        show wpList _ _ _ _ _ _
        simp only [deco]
        have cz := (q2.cellAt ix (by omega)).trans (show (td.map (Value.int .i64))[ix]? = some (.int .i64 zz) by rw [List.getElem?_map, HZ.out]; rfl)
        have fz := q2.frozenAt ix
        have br2 := (put_other (i := ix) (.int .i64 (wrap64 (zz + n))) (Ne.symm hnr)).trans br
        have bo2 := (put_other (i := ix) (.int .i64 (wrap64 (zz + n))) (Ne.symm hne)).trans bo
        have hB2 := below_set (i := ix) (v := .int .i64 (wrap64 (zz + n))) hB hgP
        obtain ⟨l0, e0, r0⟩ := own_any q0 gP ix (wrap64 (zz + n))
        obtain ⟨l1, e1, r1⟩ := own_any q1 gP ix (wrap64 (zz + n))
        obtain ⟨l2, e2, r2⟩ := own_any q2 gP ix (wrap64 (zz + n))
        have HPP := Lib.hid (fun j : Nat => cell_setRow_same (V.setCell ⟨gP, ix, none⟩ (.int .i64 (wrap64 (zz + n)))) (w.heap.size + 1) j _ #[.int .i64 m, .slice B0 p.length d0, .slice B1 tl.length d1, .slice (some ⟨gP, 0, none⟩) td.length d2] _ _ br2)
        have hBF := below_setRow hB2 (show w.heap.size ≤ w.heap.size + 1 by omega) #[.int .i64 m, .slice B0 p.length d0, .slice B1 tl.length d1, .slice (some ⟨gP, 0, none⟩) td.length d2]
        have HJ0 := Lib.hid (Ints.of_own (own_setRowX r0 br2 (by decide) #[.int .i64 m, .slice B0 p.length d0, .slice B1 tl.length d1, .slice (some ⟨gP, 0, none⟩) td.length d2]) (by omega))
        have HJ1 := Lib.hid (Ints.of_own (own_setRowX r1 br2 (by decide) #[.int .i64 m, .slice B0 p.length d0, .slice B1 tl.length d1, .slice (some ⟨gP, 0, none⟩) td.length d2]) (by omega))
        have HJ2 := Lib.hid (Ints.of_own (own_setRowX r2 br2 (by decide) #[.int .i64 m, .slice B0 p.length d0, .slice B1 tl.length d1, .slice (some ⟨gP, 0, none⟩) td.length d2]) (by omega))
        have HBF := Lib.hid hBF
        have HE := Lib.hid (⟨e0, e1, e2⟩ : l0.length = p.length ∧ l1.length = tl.length ∧ l2.length = td.length)
        clear hBF e0 e1 e2 r0 r1 r2
        have cbp0 := Joins.cell_of_block bo2 0
        have cbp1 := Joins.cell_of_block bo2 1
        have cbp2 := Joins.cell_of_block bo2 2
        have cbp3 := Joins.cell_of_block bo2 3
        have zbp := size_of_block bo2
        go_wp2_with (first | (refine wpList_store_rowTo rfl 54 _ _ rfl rfl (w.heap.size + 1) #[.int .i64 m, .slice B0 p.length d0, .slice B1 tl.length d1, .slice (some ⟨gP, 0, none⟩) td.length d2] rfl rfl 54 _ br2 (by kernel_rfl) rfl (by kernel_rfl) ?_))
        all_goals (try (exfalso; omega))
        refine bodyPost_ret (v := .agg #[.int .i64 m, .slice B0 p.length d0, .slice B1 tl.length d1, .slice (some ⟨gP, 0, none⟩) td.length d2]) ?_ rfl ⟨m, B0, B1, (some ⟨gP, 0, none⟩), d0, d1, d2, l0, l1, l2, by rw [HE.out.1, HE.out.2.1, HE.out.2.2], ⟨by rw [HE.out.1]; exact HJ0.out, _, _, rfl, by rw [HE.out.2.1]; exact HJ1.out, by rw [HE.out.2.2]; exact HJ2.out⟩, HBF.out⟩
        simp [results, Tryz.results33, go_sem, HPP.out]
      · have bo2 := bo
        have br2 := br
        have hB2 := hB
        have HPP := Lib.hid (fun j : Nat => cell_setRow_same wc (w.heap.size + 1) j _ #[.int .i64 m, .slice B0 p.length d0, .slice B1 tl.length d1, .slice B2 td.length d2] _ _ br2)
        have hBF := below_setRow hB2 (show w.heap.size ≤ w.heap.size + 1 by omega) #[.int .i64 m, .slice B0 p.length d0, .slice B1 tl.length d1, .slice B2 td.length d2]
        have HJ0 := Lib.hid (Ints.of_own (own_setRowX q0 br2 (by decide) #[.int .i64 m, .slice B0 p.length d0, .slice B1 tl.length d1, .slice B2 td.length d2]) (by omega))
        have HJ1 := Lib.hid (Ints.of_own (own_setRowX q1 br2 (by decide) #[.int .i64 m, .slice B0 p.length d0, .slice B1 tl.length d1, .slice B2 td.length d2]) (by omega))
        have HJ2 := Lib.hid (Ints.of_own (own_setRowX q2 br2 (by decide) #[.int .i64 m, .slice B0 p.length d0, .slice B1 tl.length d1, .slice B2 td.length d2]) (by omega))
        have HBF := Lib.hid hBF
        clear hBF
        have cbp0 := Joins.cell_of_block bo2 0
        have cbp1 := Joins.cell_of_block bo2 1
        have cbp2 := Joins.cell_of_block bo2 2
        have cbp3 := Joins.cell_of_block bo2 3
        have zbp := size_of_block bo2
        go_wp2_with (first | (refine wpList_store_rowTo rfl 54 _ _ rfl rfl (w.heap.size + 1) #[.int .i64 m, .slice B0 p.length d0, .slice B1 tl.length d1, .slice B2 td.length d2] rfl rfl 54 _ br2 (by kernel_rfl) rfl (by kernel_rfl) ?_))
        all_goals (try (exfalso; omega))
        refine bodyPost_ret (v := .agg #[.int .i64 m, .slice B0 p.length d0, .slice B1 tl.length d1, .slice B2 td.length d2]) ?_ rfl ⟨_, _, _, _, _, _, _, _, _, _, rfl, ⟨HJ0.out, _, _, rfl, HJ1.out, HJ2.out⟩, HBF.out⟩
        simp [results, Tryz.results33, go_sem, HPP.out]
end Go.Proofs.YtnedcclmfokdnaaGreat
