import Derived.Test.YtnedcclmfokdnaaGreatJ22
import Derived.Test.YtnedcclmfokdnaaGreatJ13
import Derived.Test.YtnedcclmfokdnaaGreatZSHgtE
import Derived.Test.YtnedcclmfokdnaaGreatZDrawE
import Derived.Test.YtnedcclmfokdnaaGreatZGenItE
import Derived.Test.YtnedcclmfokdnaaGreatZSHeightsE
import Derived.Test.YtnedcclmfokdnaaGreatZSRowE
import Derived.Test.YtnedcclmfokdnaaGreatZSAreE
namespace Go.Proofs.YtnedcclmfokdnaaGreat
open Go Go.RowKit Go.Shelf
attribute [local go_sem] Oper.semAt_some
theorem five_newS (w : World) (o0 o1 o2 o3 o4 : Obj) : (((((w.alloc o0).alloc o1).alloc o2).alloc o3).alloc o4).heap[w.heap.size]? = some o0 ∧ (((((w.alloc o0).alloc o1).alloc o2).alloc o3).alloc o4).heap[w.heap.size + 1]? = some o1 ∧ (((((w.alloc o0).alloc o1).alloc o2).alloc o3).alloc o4).heap[w.heap.size + 1 + 1]? = some o2 ∧
    (((((w.alloc o0).alloc o1).alloc o2).alloc o3).alloc o4).heap[w.heap.size + 1 + 1 + 1]? = some o3 ∧ (((((w.alloc o0).alloc o1).alloc o2).alloc o3).alloc o4).heap[w.heap.size + 1 + 1 + 1 + 1]? = some o4 ∧ (((((w.alloc o0).alloc o1).alloc o2).alloc o3).alloc o4).heap.size = w.heap.size + 5 ∧ Below w.heap.size w (((((w.alloc o0).alloc o1).alloc o2).alloc o3).alloc o4) := by
  obtain ⟨a, b, c, d, e, f⟩ := four_newS w o0 o1 o2 o3
  have h := below_alloc ((((w.alloc o0).alloc o1).alloc o2).alloc o3) o4
  have hs : ((((w.alloc o0).alloc o1).alloc o2).alloc o3).heap.size = w.heap.size + 1 + 1 + 1 + 1 := by rw [e]
  refine ⟨(h.block _ (by omega)).trans a, (h.block _ (by omega)).trans b, (h.block _ (by omega)).trans c, (h.block _ (by omega)).trans d, ?_, by simp, below_then f h⟩
  rw [← hs]; exact heap_alloc_new _ _
theorem put3d {w : World} {a b c : Nat} {t1 t2 t3 : TypeId} {p q r : Value} (x y z : Value) (ha : w.heap[a]? = some (.cells #[p] t1)) (hb : w.heap[b]? = some (.cells #[q] t2)) (hc : w.heap[c]? = some (.cells #[r] t3)) (hab : a ≠ b) (hac : a ≠ c) (hbc : b ≠ c) :
    (((w.setCell ⟨a, 0, none⟩ x).setCell ⟨b, 0, none⟩ y).setCell ⟨c, 0, none⟩ z).heap[a]? = some (.cells #[x] t1) ∧ (((w.setCell ⟨a, 0, none⟩ x).setCell ⟨b, 0, none⟩ y).setCell ⟨c, 0, none⟩ z).heap[b]? = some (.cells #[y] t2) ∧ (((w.setCell ⟨a, 0, none⟩ x).setCell ⟨b, 0, none⟩ y).setCell ⟨c, 0, none⟩ z).heap[c]? = some (.cells #[z] t3) := by
  have a1 := put1b x ha
  have b1 := (put_other (i := 0) x (Ne.symm hab)).trans hb
  have c1 := (put_other (i := 0) x (Ne.symm hac)).trans hc
  have b2 := put1b y b1
  have a2 := (put_other (i := 0) y hab).trans a1
  have c2 := (put_other (i := 0) y (Ne.symm hbc)).trans c1
  exact ⟨(put_other (i := 0) z hac).trans a2, (put_other (i := 0) z hbc).trans b2, put1b z c2⟩
theorem ties_cB (k : Kl) (v : Value) (n₀ : Nat) (w : World) (hv : KilnB w n₀ v k) (hn : n₀ ≤ w.heap.size) (hR : Right k) :
    Calls Tryz.prog 70 #[v] w fun e w' => (∃ gf lb, e = .returned (.func (.func gf) #[] lb) ∧ Gives Tryz.prog n₀ 0 tiesU (.func (.func gf) #[] lb) encT (tiesL k) w') ∧ Below w.heap.size w w' := by
  obtain ⟨A1, c1, A2, c2, A3, c3, rfl⟩ := kilnForm (hv.kiln hn)
  have q0 := heap_alloc_new w (.cells #[.int .i64 k.room, .int .i64 k.per, .slice A1 k.ls.length c1, .slice A2 k.ds.length c2, .slice A3 k.ws.length c3] 26)
  have qb := below_alloc w (.cells #[.int .i64 k.room, .int .i64 k.per, .slice A1 k.ls.length c1, .slice A2 k.ds.length c2, .slice A3 k.ws.length c3] 26)
  have hz := size_of_block q0
  have HG := Lib.hid (ties_g (Nat.le_trans hn qb.size) hR (hv.below (qb.mono hn)) hz q0)
  clear hz q0
  go_enter Tryz.func70, Tryz.ntmps70
  go_wp2_with fail
  go_ret
  exact ⟨⟨_, _, rfl, HG.out⟩, qb⟩
set_option maxRecDepth 100000 in
set_option maxHeartbeats 4000000 in
theorem Fits_c (k : Kl) (v t : Value) (tl td : List Int) (w : World) (hv : Kiln w v k) (ht : Truth w t tl td) :
    Calls Tryz.prog 20 #[v, t] w fun e w' => e = .returned (.tuple #[.int .i64 (fitsN k tl td), .bool (fitsB k tl td), .int .i64 (fitsE k tl td)]) ∧ Below w.heap.size w w' := by
  obtain ⟨A1, c1, A2, c2, A3, c3, rfl⟩ := kilnForm hv
  obtain ⟨a, b, rfl, ha, hb⟩ := ht
  obtain ⟨Aa, ca, rfl⟩ := Sl.form1 ha
  obtain ⟨Ab, cb, rfl⟩ := Sl.form1 hb
  obtain ⟨q0, q1, q2, q3, q4, qs, qb⟩ := five_newS w (.cells #[.int .i64 k.room, .int .i64 k.per, .slice A1 k.ls.length c1, .slice A2 k.ds.length c2, .slice A3 k.ws.length c3] 26) (.cells #[.slice Aa tl.length ca, .slice Ab td.length cb] 29) (.cells #[.int .i64 0] 3) (.cells #[.bool false] 4) (.cells #[.int .i64 0] 33)
  have HKB := Lib.hid hv.toB
  have hk := hv.later qb
  have ha := ha.later qb
  have hb := hb.later qb
  clear hv
  (refine (callsIn_wide (n := 9)).1 (callsIn_of_wp_marks Tryz.func20 rfl trivial ?_ rfl); simp only [Tryz.ntmps20, List.size_toArray, List.length_cons, List.length_nil, Nat.reduceAdd, Nat.reduceSub, Array.replicate_succ, Array.replicate_zero, List.push_toArray, List.append_toArray, List.nil_append, List.cons_append])
  gi_wp2_with fail
  generalize ((((w.alloc _).alloc _).alloc _).alloc _).alloc _ = W1 at q0 q1 q2 q3 q4 qs qb hk ha hb ⊢
  have HCK := Lib.hid (check_c k _ W1 hk)
  refine ⟨trivial, calls_any (r := none) (HCK.out.mono ?_)⟩
  rintro e W2 ⟨rfl, hF⟩
  replace q0 := (hF.block _ (size_of_block q0)).trans q0
  replace q1 := (hF.block _ (size_of_block q1)).trans q1
  replace q2 := (hF.block _ (size_of_block q2)).trans q2
  replace q3 := (hF.block _ (size_of_block q3)).trans q3
  replace q4 := (hF.block _ (size_of_block q4)).trans q4
  replace qb := below_then qb hF
  replace hk := hk.later hF
  replace ha := ha.later hF
  replace hb := hb.later hF
  have QS := Lib.hid qs
  clear hF HCK qs
  by_cases h0 : checkI k = 0
  · have d0 : (checkI k != 0) = false := by rw [h0]; rfl
    have hR := right_of_check h0
    have HR := Lib.hid hR
    have H0 := Lib.hid h0
    have y0 := Joins.cell_of_block q0 0
    have y1 := Joins.cell_of_block q0 1
    have y2 := Joins.cell_of_block q0 2
    have y3 := Joins.cell_of_block q0 3
    have y4 := Joins.cell_of_block q0 4
    have t0 := Joins.cell_of_block q1 0
    have t1 := Joins.cell_of_block q1 1
    clear h0 hR
    have e2 := Joins.cell_of_block q2 0
    have e3 := Joins.cell_of_block q3 0
    have e4 := Joins.cell_of_block q4 0
    have f2 := Joins.unfrozen_of_block q2 0
    have f3 := Joins.unfrozen_of_block q3 0
    have f4 := Joins.unfrozen_of_block q4 0
    have z2 := size_of_block q2
    have z3 := size_of_block q3
    have z4 := size_of_block q4
    cases hw1 : wtsB tl k.ls.length with
    | false =>
      have HE : Hid (fitsE k tl td = 1 ∧ fitsN k tl td = 0 ∧ fitsB k tl td = false) := by
        have e1 : fitsE k tl td = 1 := by unfold fitsE; rw [if_neg (by simp [H0.out]), if_pos (.inl hw1)]
        exact ⟨e1, by unfold fitsN; rw [if_neg (by rw [e1]; decide)], by unfold fitsB; rw [e1]; rfl⟩
      have hC := areWeights_c (.slice Aa tl.length ca) tl k.ls.length W2 ha
      rw [hw1] at hC
      clear hw1
      gi_wp2_with fail
      refine ⟨trivial, calls_any (r := none) (hC.mono ?_)⟩
      rintro e W3 ⟨rfl, hF⟩
      replace q2 := (hF.block _ (size_of_block q2)).trans q2
      replace q3 := (hF.block _ (size_of_block q3)).trans q3
      replace q4 := (hF.block _ (size_of_block q4)).trans q4
      replace qb := below_then qb hF
      clear hF hC e2 e3 e4 f2 f3 f4 z2 z3 z4
      have e2 := Joins.cell_of_block q2 0
      have e3 := Joins.cell_of_block q3 0
      have e4 := Joins.cell_of_block q4 0
      have f2 := Joins.unfrozen_of_block q2 0
      have f3 := Joins.unfrozen_of_block q3 0
      have f4 := Joins.unfrozen_of_block q4 0
      have z2 := size_of_block q2
      have z3 := size_of_block q3
      have z4 := size_of_block q4
      gi_wp2_with fail
      refine ⟨trivial, ?_⟩
      gi_wp2_with fail
      obtain ⟨p2, p3, p4⟩ := put3d (.int .i64 (0)) (.bool false) (.int .i64 (1)) q2 q3 q4 (by omega) (by omega) (by omega)
      have bb := below_set (below_set (below_set qb (show w.heap.size ≤ w.heap.size + 1 + 1 by omega) (i := 0) (v := .int .i64 (0))) (show w.heap.size ≤ w.heap.size + 1 + 1 + 1 by omega) (i := 0) (v := .bool false)) (show w.heap.size ≤ w.heap.size + 1 + 1 + 1 + 1 by omega) (i := 0) (v := .int .i64 (1))
      refine ⟨.tuple #[.int .i64 (0), .bool false, .int .i64 (1)], ?_, ?_, bb⟩
      · have g2 := Joins.cell_of_block p2 0
        have g3 := Joins.cell_of_block p3 0
        have g4 := Joins.cell_of_block p4 0
        generalize ((W3.setCell _ _).setCell _ _).setCell _ _ = WF at g2 g3 g4 ⊢
        simp [results, Tryz.results20, go_sem, g2, g3, g4]
      · rw [HE.out.1, HE.out.2.1, HE.out.2.2]
    | true =>
      have hC := areWeights_c (.slice Aa tl.length ca) tl k.ls.length W2 ha
      rw [hw1] at hC
      have HW1 := Lib.hid hw1
      clear hw1
      gi_wp2_with fail
      refine ⟨trivial, calls_any (r := none) (hC.mono ?_)⟩
      rintro e W3 ⟨rfl, hF⟩
      replace q0 := (hF.block _ (size_of_block q0)).trans q0
      replace q1 := (hF.block _ (size_of_block q1)).trans q1
      replace q2 := (hF.block _ (size_of_block q2)).trans q2
      replace q3 := (hF.block _ (size_of_block q3)).trans q3
      replace q4 := (hF.block _ (size_of_block q4)).trans q4
      replace qb := below_then qb hF
      replace hk := hk.later hF
      replace ha := ha.later hF
      replace hb := hb.later hF
      clear hF hC e2 e3 e4 f2 f3 f4 z2 z3 z4 y0 y1 y2 y3 y4 t0 t1
      have y0 := Joins.cell_of_block q0 0
      have y1 := Joins.cell_of_block q0 1
      have y2 := Joins.cell_of_block q0 2
      have y3 := Joins.cell_of_block q0 3
      have y4 := Joins.cell_of_block q0 4
      have t0 := Joins.cell_of_block q1 0
      have t1 := Joins.cell_of_block q1 1
      have e2 := Joins.cell_of_block q2 0
      have e3 := Joins.cell_of_block q3 0
      have e4 := Joins.cell_of_block q4 0
      have f2 := Joins.unfrozen_of_block q2 0
      have f3 := Joins.unfrozen_of_block q3 0
      have f4 := Joins.unfrozen_of_block q4 0
      have z2 := size_of_block q2
      have z3 := size_of_block q3
      have z4 := size_of_block q4
      cases hw2 : wtsB td k.ds.length with
      | false =>
        have HE : Hid (fitsE k tl td = 1 ∧ fitsN k tl td = 0 ∧ fitsB k tl td = false) := by
          have e1 : fitsE k tl td = 1 := by unfold fitsE; rw [if_neg (by simp [H0.out]), if_pos (.inr hw2)]
          exact ⟨e1, by unfold fitsN; rw [if_neg (by rw [e1]; decide)], by unfold fitsB; rw [e1]; rfl⟩
        have hC := areWeights_c (.slice Ab td.length cb) td k.ds.length W3 hb
        rw [hw2] at hC
        clear hw2
        gi_wp2_with fail
        refine ⟨trivial, calls_any (r := none) (hC.mono ?_)⟩
        rintro e W4 ⟨rfl, hF⟩
        replace q2 := (hF.block _ (size_of_block q2)).trans q2
        replace q3 := (hF.block _ (size_of_block q3)).trans q3
        replace q4 := (hF.block _ (size_of_block q4)).trans q4
        replace qb := below_then qb hF
        clear hF hC e2 e3 e4 f2 f3 f4 z2 z3 z4
        have e2 := Joins.cell_of_block q2 0
        have e3 := Joins.cell_of_block q3 0
        have e4 := Joins.cell_of_block q4 0
        have f2 := Joins.unfrozen_of_block q2 0
        have f3 := Joins.unfrozen_of_block q3 0
        have f4 := Joins.unfrozen_of_block q4 0
        have z2 := size_of_block q2
        have z3 := size_of_block q3
        have z4 := size_of_block q4
        gi_wp2_with fail
        obtain ⟨p2, p3, p4⟩ := put3d (.int .i64 (0)) (.bool false) (.int .i64 (1)) q2 q3 q4 (by omega) (by omega) (by omega)
        have bb := below_set (below_set (below_set qb (show w.heap.size ≤ w.heap.size + 1 + 1 by omega) (i := 0) (v := .int .i64 (0))) (show w.heap.size ≤ w.heap.size + 1 + 1 + 1 by omega) (i := 0) (v := .bool false)) (show w.heap.size ≤ w.heap.size + 1 + 1 + 1 + 1 by omega) (i := 0) (v := .int .i64 (1))
        refine ⟨.tuple #[.int .i64 (0), .bool false, .int .i64 (1)], ?_, ?_, bb⟩
        · have g2 := Joins.cell_of_block p2 0
          have g3 := Joins.cell_of_block p3 0
          have g4 := Joins.cell_of_block p4 0
          generalize ((W4.setCell _ _).setCell _ _).setCell _ _ = WF at g2 g3 g4 ⊢
          simp [results, Tryz.results20, go_sem, g2, g3, g4]
        · rw [HE.out.1, HE.out.2.1, HE.out.2.2]
      | true =>
        have hC := areWeights_c (.slice Ab td.length cb) td k.ds.length W3 hb
        rw [hw2] at hC
        have HW2 := Lib.hid hw2
        clear hw2
        gi_wp2_with fail
        refine ⟨trivial, calls_any (r := none) (hC.mono ?_)⟩
        rintro e W4 ⟨rfl, hF⟩
        replace q0 := (hF.block _ (size_of_block q0)).trans q0
        replace q1 := (hF.block _ (size_of_block q1)).trans q1
        replace q2 := (hF.block _ (size_of_block q2)).trans q2
        replace q3 := (hF.block _ (size_of_block q3)).trans q3
        replace q4 := (hF.block _ (size_of_block q4)).trans q4
        replace qb := below_then qb hF
        replace hk := hk.later hF
        replace ha := ha.later hF
        replace hb := hb.later hF
        clear hF hC e2 e3 e4 f2 f3 f4 z2 z3 z4 y0 y1 y2 y3 y4 t0 t1
        have y0 := Joins.cell_of_block q0 0
        have y1 := Joins.cell_of_block q0 1
        have y2 := Joins.cell_of_block q0 2
        have y3 := Joins.cell_of_block q0 3
        have y4 := Joins.cell_of_block q0 4
        have t0 := Joins.cell_of_block q1 0
        have t1 := Joins.cell_of_block q1 1
        have n1 := HR.out.ls
        have n2 := HR.out.ds
        have hH := heightsOf_c k _ (.agg #[.slice Aa tl.length ca, .slice Ab td.length cb]) tl td W4 hk ⟨_, _, rfl, ha, hb⟩ HW1.out HW2.out n1 n2
        have HH := Lib.hid hH
        clear hH
        gi_wp2_with fail
        refine ⟨trivial, calls_any (r := none) (HH.out.mono ?_)⟩
        rintro e W5 ⟨rfl, hF⟩
        replace q0 := (hF.block _ (size_of_block q0)).trans q0
        replace q1 := (hF.block _ (size_of_block q1)).trans q1
        replace q2 := (hF.block _ (size_of_block q2)).trans q2
        replace q3 := (hF.block _ (size_of_block q3)).trans q3
        replace q4 := (hF.block _ (size_of_block q4)).trans q4
        replace qb := below_then qb hF
        replace hk := hk.later hF
        have G5 := size_of_block q4
        clear hF HH ha hb y0 y1 y2 y3 y4 t0 t1
        have hz := heap_alloc_new W5 (.cells zeroH 124)
        have hzb := below_alloc W5 (.cells zeroH 124)
        obtain ⟨W6, hW6⟩ : ∃ W6, W6 = (W5.alloc (.cells zeroH 124)).setRow W5.heap.size (hgA (hgtN k.ls.length tl td)) := ⟨_, rfl⟩
        have b6 : Below W5.heap.size W5 W6 := by rw [hW6]; exact below_setRow hzb (Nat.le_refl _) _
        have r6 : W6.heap[W5.heap.size]? = some (.cells (hgA (hgtN k.ls.length tl td)) 124) := by rw [hW6]; exact setRow_heap _ _ _ _ _ _ hz
        have G6 := size_of_block r6
        have HW6 := Lib.hid hW6
        unfold zeroH at hz HW6
        clear hW6 hzb
        replace q0 := (b6.block _ (size_of_block q0)).trans q0
        replace q1 := (b6.block _ (size_of_block q1)).trans q1
        replace q2 := (b6.block _ (size_of_block q2)).trans q2
        replace q3 := (b6.block _ (size_of_block q3)).trans q3
        replace q4 := (b6.block _ (size_of_block q4)).trans q4
        replace qb := below_then qb b6
        replace hk := hk.later b6
        have y0 := Joins.cell_of_block q0 0
        have y1 := Joins.cell_of_block q0 1
        have y2 := Joins.cell_of_block q0 2
        have y3 := Joins.cell_of_block q0 3
        have y4 := Joins.cell_of_block q0 4
        have t0 := Joins.cell_of_block q1 0
        have t1 := Joins.cell_of_block q1 1
        have x0 := heap_alloc_new W6 (.cells #[.int .i64 0] 3)
        have x1 := below_alloc W6 (.cells #[.int .i64 0] 3)
        have zz := size_of_block q0
        gi_wp2_with (refine wpListIn_store_rowTo rfl 124 _ _ rfl rfl W5.heap.size (hgA (hgtN k.ls.length tl td)) rfl rfl 124 _ hz (by kernel_rfl) (by rw [hgA_size]; kernel_rfl) (by kernel_rfl) ?_; rw [← HW6.out])
        generalize W6.alloc _ = W7 at x0 x1 ⊢
        replace q0 := (x1.block _ (size_of_block q0)).trans q0
        replace q1 := (x1.block _ (size_of_block q1)).trans q1
        replace q2 := (x1.block _ (size_of_block q2)).trans q2
        replace q3 := (x1.block _ (size_of_block q3)).trans q3
        replace q4 := (x1.block _ (size_of_block q4)).trans q4
        replace r6 := (x1.block _ (size_of_block r6)).trans r6
        replace qb := below_then qb x1
        replace hk := hk.later x1
        clear y0 y1 y2 y3 y4 t0 t1 b6 x1 zz hz HW6
        refine ⟨trivial, calls_any (r := none) ((ties_cB k _ w.heap.size W7 (HKB.out.below qb) qb.size HR.out).mono ?_)⟩
        rintro e W8 ⟨⟨gf, lb, rfl, hG⟩, hF⟩
        replace q0 := (hF.block _ (size_of_block q0)).trans q0
        replace q1 := (hF.block _ (size_of_block q1)).trans q1
        replace q2 := (hF.block _ (size_of_block q2)).trans q2
        replace q3 := (hF.block _ (size_of_block q3)).trans q3
        replace q4 := (hF.block _ (size_of_block q4)).trans q4
        replace r6 := (hF.block _ (size_of_block r6)).trans r6
        replace x0 := (hF.block _ (size_of_block x0)).trans x0
        replace qb := below_then qb hF
        clear hF hk
        gi_wp2_with fail
        generalize (Value.agg #[Value.int .i64 k.room, Value.int .i64 k.per, Value.slice A1 k.ls.length c1, Value.slice A2 k.ds.length c2, Value.slice A3 k.ws.length c3]) = kv
        generalize (Value.agg #[Value.slice Aa tl.length ca, Value.slice Ab td.length cb]) = tv
        generalize (Value.agg (hgA (hgtN k.ls.length tl td))) = ha0
        have HF : Hid (∀ m : Nat, (m : Int) < marksN k → hgtN k.ls.length tl td m = hgt k.ls.length tl td m) := fun m hm => hgtN_eq (wtsB_iff.1 HW1.out).1 (wtsB_iff.1 HW2.out).1 hm
        have HFB : Hid (∀ v, 0 ≤ hgt k.ls.length tl td v ∧ hgt k.ls.length tl td v ≤ 335544320) := hgt_rng HW1.out HW2.out n1 n2
        have HE0 : Hid (fitsE k tl td = 0) := fitsE_zero.2 ⟨H0.out, HW1.out, HW2.out⟩
        have HOK := Lib.hid (net_ok HR.out)
        have z8 := size_of_block q0
        have z5 := size_of_block r6
        have z6 := size_of_block x0
        have g5 : w.heap.size + 1 + 1 + 1 + 1 < W5.heap.size := G5
        have g6 : W5.heap.size < W6.heap.size := G6
        generalize hgtN k.ls.length tl td = F at r6 HF
        have HH0 : Hid (hgt k.ls.length tl td = hgt k.ls.length tl td) := rfl
        generalize hH0 : hgt k.ls.length tl td = H at HF HFB
        clear HH0
        have HH0 := Lib.hid hH0
        clear hH0
        refine wpIn_over (U := tiesU) (n₀ := w.heap.size) (B := 0) hG rfl (fun _ => rfl) qb.size
          (fun pre W' => (W'.heap[W6.heap.size]? = some (.cells #[.int .i64 pre.length] 3) ∧ W'.heap[W5.heap.size]? = some (.cells (hgA F) 124)) ∧ ((W'.heap[w.heap.size + 1 + 1]? = some (.cells #[.int .i64 0] 3) ∧ W'.heap[w.heap.size + 1 + 1 + 1]? = some (.cells #[.bool false] 4)) ∧ W'.heap[w.heap.size + 1 + 1 + 1 + 1]? = some (.cells #[.int .i64 0] 33)) ∧ Below w.heap.size w W' ∧ (∀ t ∈ pre, H t.too - H t.frm ≤ t.most))
          (fun c _ W' => c = .ret ∧ ∃ i : Nat, badAt (tiesL k) H = some i ∧ W'.heap[w.heap.size + 1 + 1]? = some (.cells #[.int .i64 i] 3) ∧ W'.heap[w.heap.size + 1 + 1 + 1]? = some (.cells #[.bool false] 4) ∧ W'.heap[w.heap.size + 1 + 1 + 1 + 1]? = some (.cells #[.int .i64 0] 33) ∧ Below w.heap.size w W')
          (((own_cells _ _ (fun pre : List Tie => .cells #[.int .i64 pre.length] 3) fun _ => rfl).and (own_cells _ _ _ fun _ => rfl)).and ((((own_cells _ _ _ fun _ => rfl).and (own_cells _ _ _ fun _ => rfl)).and (own_cells _ _ _ fun _ => rfl)).and ((ownFrom_below (Nat.le_refl _) qb.size).and (fun s X Y row hs _ _ => hs))))
          (fun c s X Y row hs hg hrow => ⟨hs.1, hs.2.elim fun i hi => ⟨i, hi.1, own_cells (β := Unit) W8.heap.size _ (fun _ => .cells #[.int .i64 i] 3) (fun _ => rfl) () X Y row hi.2.1 hg hrow, own_cells (β := Unit) W8.heap.size _ (fun _ => .cells #[.bool false] 4) (fun _ => rfl) () X Y row hi.2.2.1 hg hrow, own_cells (β := Unit) W8.heap.size _ (fun _ => .cells #[.int .i64 0] 33) (fun _ => rfl) () X Y row hi.2.2.2.1 hg hrow, ownFrom_below (β := Unit) (Nat.le_refl _) qb.size () X Y row hi.2.2.2.2 hg hrow⟩⟩)
          ⟨⟨x0, r6⟩, ⟨⟨q2, q3⟩, q4⟩, qb, by simp⟩
          (fun x a' W' => ∃ Bx, W6.heap.size < Bx ∧ W'.heap[Bx]? = some (.cells #[.int .i64 x.frm, .int .i64 x.too, .int .i64 x.most, .int .i64 x.id] 99) ∧ a' = { tmps := #[kv, tv, .pointer (some ⟨w.heap.size, 0, none⟩), .pointer (some ⟨w.heap.size + 1, 0, none⟩), .pointer (some ⟨w.heap.size + 1 + 1, 0, none⟩), .pointer (some ⟨w.heap.size + 1 + 1 + 1, 0, none⟩), .pointer (some ⟨w.heap.size + 1 + 1 + 1 + 1, 0, none⟩), .int .i64 (checkI k), .pointer (some ⟨W5.heap.size, 0, none⟩), .pointer (some ⟨W6.heap.size, 0, none⟩), .pointer (some ⟨Bx, 0, none⟩), kv, .int .i64 (checkI k), .int .i64 (checkI k), .bool false, undef, .pointer (some ⟨w.heap.size + 1, 0, none⟩), .slice Aa tl.length ca, .pointer (some ⟨w.heap.size, 2, none⟩), .slice A1 k.ls.length c1, .int .i64 k.ls.length, .bool true, .bool false, .bool false, .pointer (some ⟨w.heap.size + 1, 1, none⟩), .slice Ab td.length cb, .pointer (some ⟨w.heap.size, 3, none⟩), .slice A2 k.ds.length c2, .int .i64 k.ds.length, .bool true, .bool false, .bool false, kv, tv, ha0, kv, .func (.func gf) #[] lb, tV x, undef, undef, undef, undef, undef, undef, undef, undef, undef, undef, undef, undef, undef, undef, undef], defers := [] })
          (fun x a' s X Y row hs hg hrow => by
            obtain ⟨Bx, h1, h2, h3⟩ := hs
            exact ⟨Bx, h1, own_cells (β := Unit) W8.heap.size Bx (fun _ => .cells #[.int .i64 x.frm, .int .i64 x.too, .int .i64 x.most, .int .i64 x.id] 99) (fun _ => rfl) s X Y row h2 hg hrow, h3⟩) ?assign ?body ?done ?stop
        case assign =>
          rintro l2 pre x W' K hl ⟨⟨i1, i2⟩, ⟨⟨i3, i4⟩, i5⟩, i6, i7⟩ hp hK
          unfold encT tV
          gi_wp2
          have hx := below_alloc W' (.cells #[.int .i64 x.frm, .int .i64 x.too, .int .i64 x.most, .int .i64 x.id] 99)
          exact hK _ _ (keeps_of_below hx) (Kp.of_below hx i6.size) ⟨⟨(hx.block _ (size_of_block i1)).trans i1, (hx.block _ (size_of_block i2)).trans i2⟩, ⟨⟨(hx.block _ (size_of_block i3)).trans i3, (hx.block _ (size_of_block i4)).trans i4⟩, (hx.block _ (size_of_block i5)).trans i5⟩, below_then i6 hx, i7⟩ ⟨W'.heap.size, size_of_block i1, heap_alloc_new _ _, rfl⟩
        case done =>
          rintro D W' hDD ⟨⟨i1, i2⟩, ⟨⟨i3, i4⟩, i5⟩, i6, i7⟩ hK
          have e2 := Joins.cell_of_block i3 0
          have e3 := Joins.cell_of_block i4 0
          have e4 := Joins.cell_of_block i5 0
          have f2 := Joins.unfrozen_of_block i3 0
          have f3 := Joins.unfrozen_of_block i4 0
          have f4 := Joins.unfrozen_of_block i5 0
          have z2 := size_of_block i3
          have z3 := size_of_block i4
          have z4 := size_of_block i5
          obtain ⟨p2, p3, p4⟩ := put3d (.int .i64 0) (.bool true) (.int .i64 0) i3 i4 i5 (by omega) (by omega) (by omega)
          have bb := below_set (below_set (below_set i6 (show w.heap.size ≤ w.heap.size + 1 + 1 by omega) (i := 0) (v := .int .i64 0)) (show w.heap.size ≤ w.heap.size + 1 + 1 + 1 by omega) (i := 0) (v := .bool true)) (show w.heap.size ≤ w.heap.size + 1 + 1 + 1 + 1 by omega) (i := 0) (v := .int .i64 0)
          have hKD := (put_other (b := w.heap.size + 1 + 1 + 1 + 1) (i := 0) (.int .i64 0) (show D ≠ w.heap.size + 1 + 1 + 1 + 1 by omega)).trans ((put_other (b := w.heap.size + 1 + 1 + 1) (i := 0) (.bool true) (show D ≠ w.heap.size + 1 + 1 + 1 by omega)).trans ((put_other (b := w.heap.size + 1 + 1) (i := 0) (.int .i64 0) (show D ≠ w.heap.size + 1 + 1 by omega)).trans hK))
          have HN : Hid (fitsN k tl td = 0 ∧ fitsB k tl td = true) := by
            have hn := badAt_none.2 i7
            rw [← HH0.out] at hn
            exact ⟨by unfold fitsN; rw [if_pos HE0.out, hn], by unfold fitsB; rw [HE0.out, hn]; rfl⟩
          clear i1 i2 i3 i4 i5 i6 i7 hK
          gi_wp2_with fail
          generalize ((W'.setCell _ _).setCell _ _).setCell _ _ = WG at p2 p3 p4 bb hKD ⊢
          refine ⟨by simp, .inl ⟨_, _, rfl, run_takeDeferred hKD, ?_⟩⟩
          have r2 := (World.putObj_heap_other (o := .deferred none) (show w.heap.size + 1 + 1 ≠ D by omega)).trans p2
          have r3 := (World.putObj_heap_other (o := .deferred none) (show w.heap.size + 1 + 1 + 1 ≠ D by omega)).trans p3
          have r4 := (World.putObj_heap_other (o := .deferred none) (show w.heap.size + 1 + 1 + 1 + 1 ≠ D by omega)).trans p4
          have br := bb.trans (belowK_b (w := w) (Nat.le_refl _) _ D (.deferred (some [])) (.deferred none) (by omega) hKD rfl rfl)
          clear p2 p3 p4 bb hKD
          generalize World.putObj _ _ _ = WF at r2 r3 r4 br ⊢
          refine ⟨.tuple #[.int .i64 0, .bool true, .int .i64 0], ?_, ?_, br⟩
          · have g2 := Joins.cell_of_block r2 0
            have g3 := Joins.cell_of_block r3 0
            have g4 := Joins.cell_of_block r4 0
            simp [results, Tryz.results20, go_sem, g2, g3, g4]
          · rw [HN.out.1, HN.out.2, HE0.out]
        case stop =>
          rintro D c pre W' hDD hp ⟨rfl, i, hi, i3, i4, i5, i6⟩ hK
          gi_wp2_with fail
          have p2 := i3
          have p3 := i4
          have p4 := i5
          have bb := i6
          have hKD := hK
          have HN : Hid (fitsN k tl td = i ∧ fitsB k tl td = false) := by
            have hn := hi
            rw [← HH0.out] at hn
            exact ⟨by unfold fitsN; rw [if_pos HE0.out, hn], by unfold fitsB; rw [HE0.out, hn]; rfl⟩
          clear i3 i4 i5 i6 hK
          refine ⟨by simp, .inl ⟨_, _, rfl, run_takeDeferred hKD, ?_⟩⟩
          have r2 := (World.putObj_heap_other (o := .deferred none) (show w.heap.size + 1 + 1 ≠ D by omega)).trans p2
          have r3 := (World.putObj_heap_other (o := .deferred none) (show w.heap.size + 1 + 1 + 1 ≠ D by omega)).trans p3
          have r4 := (World.putObj_heap_other (o := .deferred none) (show w.heap.size + 1 + 1 + 1 + 1 ≠ D by omega)).trans p4
          have br := bb.trans (belowK_b (w := w) (Nat.le_refl _) _ D (.deferred (some [])) (.deferred none) (by omega) hKD rfl rfl)
          clear p2 p3 p4 bb hKD
          generalize World.putObj _ _ _ = WF at r2 r3 r4 br ⊢
          refine ⟨.tuple #[.int .i64 i, .bool false, .int .i64 0], ?_, ?_, br⟩
          · have g2 := Joins.cell_of_block r2 0
            have g3 := Joins.cell_of_block r3 0
            have g4 := Joins.cell_of_block r4 0
            simp [results, Tryz.results20, go_sem, g2, g3, g4]
          · rw [HN.out.1, HN.out.2, HE0.out]
        case body =>
          rintro l2 pre x a' W1 hl ⟨rc, hrc⟩ ⟨⟨i1, i2⟩, ⟨⟨i3, i4⟩, i5⟩, i6, i7⟩ ⟨Bx, hBx, xB, rfl⟩ hpx
          obtain ⟨fr, to, mo, ti⟩ := x
          have hm := hpx.subset (List.mem_append_right pre (List.mem_singleton.2 rfl))
          obtain ⟨t1, t2, t3, t4, t5, t6⟩ := HOK.out.rng _ hm
          dsimp only at t1 t2 t3 t4 t5 t6
          obtain ⟨a1, rfl⟩ : ∃ a1 : Nat, fr = a1 := ⟨fr.toNat, by omega⟩
          obtain ⟨a2, rfl⟩ : ∃ a2 : Nat, to = a2 := ⟨to.toNat, by omega⟩
          have hle := HOK.out.le
          have l1 : a1 < 41 := by omega
          have l2' : a2 < 41 := by omega
          have e1 := (Joins.cell_of_block i2 a1).trans (hgA_at F l1)
          have e2 := (Joins.cell_of_block i2 a2).trans (hgA_at F l2')
          rw [HF.out a1 t2] at e1
          rw [HF.out a2 t4] at e2
          have b1 := HFB.out a1
          have b2 := HFB.out a2
          have x0 := Joins.cell_of_block xB 0
          have x1 := Joins.cell_of_block xB 1
          have x2 := Joins.cell_of_block xB 2
          have n0 := Joins.cell_of_block i1 0
          have fn0 := Joins.unfrozen_of_block i1 0
          have zi := size_of_block i1
          have zx := size_of_block xB
          have zh := size_of_block i2
          have hlen : pre.length ≤ 1000 := by
            have h1 := hpx.length_le
            have h2 := tiesL_len HR.out.small
            simp only [List.length_append, List.length_cons, List.length_nil] at h1
            omega
          have HP := Lib.hid hpx
          have I7 := Lib.hid i7
          clear i7 hpx hm
          generalize hh1 : H a1 = h1 at e1 b1
          generalize hh2 : H a2 = h2 at e2 b2
          have HH1 := Lib.hid hh1
          have HH2 := Lib.hid hh2
          clear hh1 hh2
          by_cases hgt : mo < h2 - h1
          · have dg : decide (h2 - h1 > mo) = true := decide_eq_true hgt
            have hbad : badAt (tiesL k) H = some pre.length := by
              obtain ⟨tl9, h9⟩ := HP.out
              refine badAt_some (t := ⟨a1, a2, mo, ti⟩) ?_ ?_ ?_
              · rw [← h9, List.append_assoc, List.getElem?_append_right (Nat.le_refl _), Nat.sub_self]; rfl
              · show mo < H a2 - H a1; rw [HH1.out, HH2.out]; exact hgt
              · intro j s hj hs
                rw [← h9, List.append_assoc, List.getElem?_append_left hj] at hs
                exact I7.out s (List.mem_of_getElem? hs)
            have HBAD := Lib.hid hbad
            clear hbad hgt
            gi_wp2_with fail
            refine wpIn_region_grown (r := some l2) (by kernel_rfl) (by kernel_rfl) fun hcg => ?_
            repeat (go_big_quiet_step (fail))
            refine wpQuiet_nil ?_
            intro _ hw'
            obtain ⟨g, hw''⟩ := hw'
            subst hw''
            have j1 := (g.b.block _ (size_of_block i1)).trans i1
            have j2 := (g.b.block _ (size_of_block i2)).trans i2
            have j3 := (g.b.block _ (size_of_block i3)).trans i3
            have j4 := (g.b.block _ (size_of_block i4)).trans i4
            have j5 := (g.b.block _ (size_of_block i5)).trans i5
            have j6 := below_then i6 g.b
            have kg := keeps_of_below (B := W8.heap.size) g.b
            generalize g.val = WB at j1 j2 j3 j4 j5 j6 kg ⊢
            clear hcg e1 e2 x0 x1 x2 n0 fn0 zi zx zh i1 i2 i3 i4 i5 i6 xB
            have n0 := Joins.cell_of_block j1 0
            have y2 := Joins.cell_of_block j3 0
            have y3 := Joins.cell_of_block j4 0
            have y4 := Joins.cell_of_block j5 0
            have f2 := Joins.unfrozen_of_block j3 0
            have f3 := Joins.unfrozen_of_block j4 0
            have f4 := Joins.unfrozen_of_block j5 0
            have z1 := size_of_block j1
            have z2 := size_of_block j3
            have z3 := size_of_block j4
            have z4 := size_of_block j5
            obtain ⟨p2, p3, p4⟩ := put3d (.int .i64 pre.length) (.bool false) (.int .i64 0) j3 j4 j5 (by omega) (by omega) (by omega)
            have bb := below_set (below_set (below_set j6 (show w.heap.size ≤ w.heap.size + 1 + 1 by omega) (i := 0) (v := .int .i64 pre.length)) (show w.heap.size ≤ w.heap.size + 1 + 1 + 1 by omega) (i := 0) (v := .bool false)) (show w.heap.size ≤ w.heap.size + 1 + 1 + 1 + 1 by omega) (i := 0) (v := .int .i64 0)
            have P2 := Lib.hid p2
            have P3 := Lib.hid p3
            have P4 := Lib.hid p4
            clear p2 p3 p4
            show _
            gi_wp2_with fail
            exact ⟨kg.trans (((KeepsOthers.setCell _ _ _).from _).trans (((KeepsOthers.setCell _ _ _).from _).trans ((KeepsOthers.setCell _ _ _).from _))), rfl, _, HBAD.out, P2.out, P3.out, P4.out, bb⟩
          · have dg : decide (h2 - h1 > mo) = false := decide_eq_false hgt
            gi_wp2_with fail
            refine wpIn_region_grown (r := some l2) (by kernel_rfl) (by kernel_rfl) fun hcg => ?_
            repeat (go_big_quiet_step (fail))
            refine wpQuiet_nil ?_
            intro _ hw'
            obtain ⟨g, hw''⟩ := hw'
            subst hw''
            have j1 := (g.b.block _ (size_of_block i1)).trans i1
            have j2 := (g.b.block _ (size_of_block i2)).trans i2
            have j3 := (g.b.block _ (size_of_block i3)).trans i3
            have j4 := (g.b.block _ (size_of_block i4)).trans i4
            have j5 := (g.b.block _ (size_of_block i5)).trans i5
            have j6 := below_then i6 g.b
            have kg := keeps_of_below (B := W8.heap.size) g.b
            have kp := Kp.of_below (n₀ := w.heap.size) (B := 0) (U := tiesU) g.b i6.size
            generalize g.val = WB at j1 j2 j3 j4 j5 j6 kg kp ⊢
            clear hcg e1 e2 x0 x1 x2 n0 fn0 zi zx zh i1 i2 i3 i4 i5 i6 xB
            have n0 := Joins.cell_of_block j1 0
            have fn0 := Joins.unfrozen_of_block j1 0
            have z1 := size_of_block j1
            have kp2 := Lib.hid (kp.trans (kp_setCell (n₀ := w.heap.size) (B := 0) (U := tiesU) (i := 0) (v := .int .i64 ((pre.length : Int) + 1)) j1 (by decide) (by omega)))
            have P1 := Lib.hid (put1b (.int .i64 ((pre.length : Int) + 1)) j1)
            have P2 := Lib.hid ((put_other (b := W6.heap.size) (i := 0) (.int .i64 ((pre.length : Int) + 1)) (show W5.heap.size ≠ W6.heap.size by omega)).trans j2)
            have P3 := Lib.hid ((put_other (b := W6.heap.size) (i := 0) (.int .i64 ((pre.length : Int) + 1)) (show w.heap.size + 1 + 1 ≠ W6.heap.size by omega)).trans j3)
            have P4 := Lib.hid ((put_other (b := W6.heap.size) (i := 0) (.int .i64 ((pre.length : Int) + 1)) (show w.heap.size + 1 + 1 + 1 ≠ W6.heap.size by omega)).trans j4)
            have P5 := Lib.hid ((put_other (b := W6.heap.size) (i := 0) (.int .i64 ((pre.length : Int) + 1)) (show w.heap.size + 1 + 1 + 1 + 1 ≠ W6.heap.size by omega)).trans j5)
            have P6 := Lib.hid (below_set j6 (show w.heap.size ≤ W6.heap.size by omega) (i := 0) (v := .int .i64 ((pre.length : Int) + 1)))
            have HLE : Hid (h2 - h1 ≤ mo) := (by omega : h2 - h1 ≤ mo)
            clear j2 j3 j4 j5 j6 kp hgt
            show _
            gi_wp2_with fail
            refine ⟨kg.trans ((KeepsOthers.setCell _ _ _).from _), kp2.out, ⟨⟨?_, P2.out⟩, ⟨⟨P3.out, P4.out⟩, P5.out⟩, P6.out, ?_⟩⟩
            · rw [List.length_append]
              exact P1.out
            · intro t ht
              rcases List.mem_append.1 ht with ht | ht
              · exact I7.out t ht
              · rw [List.mem_singleton] at ht
                subst ht
                show H a2 - H a1 ≤ mo
                rw [HH1.out, HH2.out]
                have := HLE.out
                omega
  · have d0 : (checkI k != 0) = true := by simpa using h0
    have e2 := Joins.cell_of_block q2 0
    have e3 := Joins.cell_of_block q3 0
    have e4 := Joins.cell_of_block q4 0
    have f2 := Joins.unfrozen_of_block q2 0
    have f3 := Joins.unfrozen_of_block q3 0
    have f4 := Joins.unfrozen_of_block q4 0
    have z2 := size_of_block q2
    have z3 := size_of_block q3
    have z4 := size_of_block q4
    have HE : Hid (fitsE k tl td = checkI k ∧ fitsN k tl td = 0 ∧ fitsB k tl td = false) := by
      have e1 : fitsE k tl td = checkI k := by unfold fitsE; rw [if_pos h0]
      exact ⟨e1, by unfold fitsN; rw [if_neg (by rw [e1]; exact h0)], by unfold fitsB; rw [e1]; simp [h0]⟩
    clear h0
    gi_wp2_with fail
    obtain ⟨p2, p3, p4⟩ := put3d (.int .i64 (0)) (.bool false) (.int .i64 (checkI k)) q2 q3 q4 (by omega) (by omega) (by omega)
    have bb := below_set (below_set (below_set qb (show w.heap.size ≤ w.heap.size + 1 + 1 by omega) (i := 0) (v := .int .i64 (0))) (show w.heap.size ≤ w.heap.size + 1 + 1 + 1 by omega) (i := 0) (v := .bool false)) (show w.heap.size ≤ w.heap.size + 1 + 1 + 1 + 1 by omega) (i := 0) (v := .int .i64 (checkI k))
    refine ⟨.tuple #[.int .i64 (0), .bool false, .int .i64 (checkI k)], ?_, ?_, bb⟩
    · have g2 := Joins.cell_of_block p2 0
      have g3 := Joins.cell_of_block p3 0
      have g4 := Joins.cell_of_block p4 0
      generalize ((W2.setCell _ _).setCell _ _).setCell _ _ = WF at g2 g3 g4 ⊢
      simp [results, Tryz.results20, go_sem, g2, g3, g4]
    · rw [HE.out.1, HE.out.2.1, HE.out.2.2]
end Go.Proofs.YtnedcclmfokdnaaGreat
