/- Texts joined: STiesD SHead SLawK SAbF. -/
import Derived.Test.YtnedcclmfokdnaaGreatJ26
import Derived.Test.YtnedcclmfokdnaaGreatJ25
import Derived.Laws.StructEq
import Derived.Laws.Cover2
import Derived.Test.YtnedcclmfokdnaaGreatJ11
namespace Go.Proofs.YtnedcclmfokdnaaGreat
open Go Go.RowKit Go.Shelf
attribute [local go_sem] Oper.semAt_some Rel RelAt RelUpon
set_option maxRecDepth 100000 in
set_option maxHeartbeats 4000000 in
theorem Ties_d (k : Kl) (v : Value) (w : World) (hv : Kiln w v k) :
    Calls Tryz.prog 18 #[v] w fun e w' => ∃ u, e = .returned (.tuple #[u, .int .i64 (checkI k)]) ∧ w'.ownsRow w.heap.size 99 4 u (tiesE k).length ((tiesE k).flatMap tC) ∧ Below w.heap.size w w' := by
  obtain ⟨A1, c1, A2, c2, A3, c3, rfl⟩ := kilnForm hv
  have q0 := heap_alloc_new w (.cells #[.int .i64 k.room, .int .i64 k.per, .slice A1 k.ls.length c1, .slice A2 k.ds.length c2, .slice A3 k.ws.length c3] 26)
  have qb := below_alloc w (.cells #[.int .i64 k.room, .int .i64 k.per, .slice A1 k.ls.length c1, .slice A2 k.ds.length c2, .slice A3 k.ws.length c3] 26)
  have hk := hv.later qb
  by_cases h0 : checkI k = 0
  · have hR := right_of_check h0
    have d0 : (checkI k != 0) = false := by rw [h0]; rfl
    have HE := Lib.hid (show tiesE k = tiesL k from if_pos h0)
    have HR := Lib.hid hR
    have HL := Lib.hid (tiesL_len hR.small)
    have H0 := Lib.hid h0
    clear hR h0
    go_enter Tryz.func18, Tryz.ntmps18
    go_wp2_with fail
    generalize w.alloc _ = W1 at q0 qb hk ⊢
    refine (check_c k _ W1 hk).mono ?_
    rintro e W2 ⟨rfl, hF⟩
    replace q0 := (hF.block _ (size_of_block q0)).trans q0
    replace qb := below_then qb hF
    replace hk := hk.later hF
    clear hF
    have y0 := Joins.cell_of_block q0 0
    have y1 := Joins.cell_of_block q0 1
    have y2 := Joins.cell_of_block q0 2
    have y3 := Joins.cell_of_block q0 3
    have y4 := Joins.cell_of_block q0 4
    go_wp2_with fail
    refine (ties_c k _ W2 hk HR.out).mono ?_
    rintro e W3 ⟨⟨gf, lb, rfl, hG⟩, hF⟩
    replace qb := below_then qb hF
    clear hF y0 y1 y2 y3 y4 hk q0
    go_wp2_with fail
    refine (collect_c _ _ 0 (tiesL k) W3 hG (Nat.le_refl _) (by have := HL.out; omega)).mono ?_
    rintro e W4 ⟨u, rfl, hO, hF⟩
    have hT := own_less hO qb.size
    replace qb := below_then qb hF
    clear hF hO
    go_wp2_with fail
    go_ret2
    exact ⟨u, by rw [H0.out]; rfl, by rw [HE.out]; exact hT, qb⟩
  · have d0 : (checkI k != 0) = true := by simpa using h0
    have HE := Lib.hid (show tiesE k = [] from if_neg h0)
    clear h0
    go_enter Tryz.func18, Tryz.ntmps18
    go_wp2_with fail
    generalize w.alloc _ = W1 at q0 qb hk ⊢
    refine (check_c k _ W1 hk).mono ?_
    rintro e W2 ⟨rfl, hF⟩
    replace qb := below_then qb hF
    go_wp2_with fail
    go_ret2
    exact ⟨_, rfl, by rw [HE.out]; exact World.ownsRow_nil _ _ _ _, qb⟩
theorem own_of_block {w : World} {base g s : Nat} {t : TypeId} {cells : Array Value} (n : Nat) {xs : List Value} (h : w.heap[g]? = some (.cells cells t)) (hb : base ≤ g) (hm : n ≤ maxLen) (hs : cells.size = n * s) (hx : cells.toList = xs) : w.ownsRow base t s (.slice (some ⟨g, 0, none⟩) n n) n xs :=
  ⟨by rw [← hx]; simpa using hs, .inr ⟨g, n, cells, rfl, hb, h, Nat.le_refl _, hm, hs, by rw [← hs, ← hx, ← Array.length_toList, List.take_length]⟩⟩
section
variable (a b c d : Int) (w : World)
theorem Tryz.inSp1 (n : Nat) : (Op.equalIn (n + 2) 63 (.agg #[.int .i64 a, .int .i64 b]) (.agg #[.int .i64 c, .int .i64 d])).run Tryz.prog w = .ok (a == c && b == d) w := by
  have u3 := Tryz.underlying3
  have hS : Tryz.prog.underlying 63 = some (.struct (Tryz.prog.fieldsOf 63)) := by kernel_rfl
  have hp : Tryz.prog.stoodInHeld 63 = false := by kernel_rfl
  rw [run_equalIn_agg w (n + 1) 63 _ _ hS hp]
  simp only [Program.fieldsOf, Tryz.underlying63]
  go_simp
  by_cases h1 : a = c <;> by_cases h2 : b = d <;> simp [h1, h2]
theorem Tryz.inTie1 (n : Nat) (e f g h : Int) : (Op.equalIn (n + 2) 99 (.agg #[.int .i64 a, .int .i64 b, .int .i64 c, .int .i64 d]) (.agg #[.int .i64 e, .int .i64 f, .int .i64 g, .int .i64 h])).run Tryz.prog w = .ok ((a == e && b == f) && c == g && d == h) w := by
  have u3 := Tryz.underlying3
  have hS : Tryz.prog.underlying 99 = some (.struct (Tryz.prog.fieldsOf 99)) := by kernel_rfl
  have hp : Tryz.prog.stoodInHeld 99 = false := by kernel_rfl
  rw [run_equalIn_agg w (n + 1) 99 _ _ hS hp]
  simp only [Program.fieldsOf, Tryz.underlying99]
  go_simp
  by_cases h1 : a = e <;> by_cases h2 : b = f <;> by_cases h3 : c = g <;> by_cases h4 : d = h <;> simp [h1, h2, h3, h4]
end
theorem Tryz.eqOf1 {P : Program} {t : TypeId} {xs ys : Array Value} {b : Bool} {w : World} (h : (Op.equalIn 10000 t (.agg xs) (.agg ys)).run P w = .ok b w) :
    (binOp .eql t (.agg xs) (.agg ys)).run P w = .ok (.bool b) w ∧ (binOp .neq t (.agg xs) (.agg ys)).run P w = .ok (.bool (!b)) w := by
  rw [run_eql_struct, run_neq_struct, h]; exact ⟨rfl, rfl⟩
theorem Tryz.eqSp1 (a b c d : Int) (w : World) : (binOp .eql 63 (.agg #[.int .i64 a, .int .i64 b]) (.agg #[.int .i64 c, .int .i64 d])).run Tryz.prog w = .ok (.bool (a == c && b == d)) w := (Tryz.eqOf1 (Tryz.inSp1 a b c d w 9998)).1
theorem Tryz.eqTie1 (a b c d e f g h : Int) (w : World) : (binOp .eql 99 (.agg #[.int .i64 a, .int .i64 b, .int .i64 c, .int .i64 d]) (.agg #[.int .i64 e, .int .i64 f, .int .i64 g, .int .i64 h])).run Tryz.prog w = .ok (.bool ((a == e && b == f) && c == g && d == h)) w := (Tryz.eqOf1 (Tryz.inTie1 a b c d w 9998 e f g h)).1
theorem cells_new1 (w : World) (cs : Array Value) (t : TypeId) : ∀ j u, cs.toList[j]? = some u → (w.alloc (.cells cs t)).cell? ((⟨w.heap.size, 0, none⟩ : Addr).add j) = some u := fun j u hj => by
  have h9 := Joins.cell_of_block (heap_alloc_new w (.cells cs t)) j
  rw [← Array.getElem?_toList, hj] at h9
  by_cases h0 : j = 0
  · subst h0; simpa [Addr.add] using h9
  · simpa [Addr.add, h0] using h9
end Go.Proofs.YtnedcclmfokdnaaGreat
namespace Go.Proofs.YtnedcclmfokdnaaGreat
open Go Go.RowKit Go.Shelf
attribute [local go_sem] Oper.semAt_some Rel RelAt RelUpon
theorem four_new1 (w : World) (o0 o1 o2 o3 : Obj) : ((((w.alloc o0).alloc o1).alloc o2).alloc o3).heap[w.heap.size]? = some o0 ∧ ((((w.alloc o0).alloc o1).alloc o2).alloc o3).heap[w.heap.size + 1]? = some o1 ∧ ((((w.alloc o0).alloc o1).alloc o2).alloc o3).heap[w.heap.size + 1 + 1]? = some o2 ∧
    ((((w.alloc o0).alloc o1).alloc o2).alloc o3).heap[w.heap.size + 1 + 1 + 1]? = some o3 ∧ Below w.heap.size w ((((w.alloc o0).alloc o1).alloc o2).alloc o3) := by
  obtain ⟨a, b, c, d, e⟩ := three_new w o0 o1 o2
  have h := below_alloc (((w.alloc o0).alloc o1).alloc o2) o3
  have hn := heap_alloc_new (((w.alloc o0).alloc o1).alloc o2) o3
  have hz : (((w.alloc o0).alloc o1).alloc o2).heap.size = w.heap.size + 1 + 1 + 1 := by simp
  rw [hz] at hn
  exact ⟨(h.block _ (size_of_block a)).trans a, (h.block _ (size_of_block b)).trans b, (h.block _ (size_of_block c)).trans c, hn, below_then e h⟩
set_option maxRecDepth 100000 in
set_option maxHeartbeats 4000000 in
theorem Example_c (w : World) : Calls Tryz.prog 68 #[] w fun e w' => ∃ g1 g2 g3, e = .returned (.agg #[.int .i64 100, .int .i64 10, .slice (some ⟨g1, 0, none⟩) 3 3, .slice (some ⟨g2, 0, none⟩) 2 2, .slice (some ⟨g3, 0, none⟩) 2 2]) ∧ (w'.ownsRow w.heap.size 103 4 (.slice (some ⟨g1, 0, none⟩) 3 3) 3 (exK.ls.flatMap rC) ∧ w'.ownsRow w.heap.size 104 4 (.slice (some ⟨g2, 0, none⟩) 2 2) 2 (exK.ds.flatMap rC) ∧ w'.ownsRow w.heap.size 112 6 (.slice (some ⟨g3, 0, none⟩) 2 2) 2 (exK.ws.flatMap wC)) ∧ Below w.heap.size w w' := by
  go_enter Tryz.func68, Tryz.ntmps68
  obtain ⟨q0, q1, q2, q3, qb⟩ := four_new1 w (.cells #[.int .i64 100, .int .i64 10, .slice (some ⟨w.heap.size + 1, 0, none⟩) 3 3, .slice (some ⟨w.heap.size + 1 + 1, 0, none⟩) 2 2, .slice (some ⟨w.heap.size + 1 + 1 + 1, 0, none⟩) 2 2] 26) (.cells #[.int .i64 1, .int .i64 0, .int .i64 20, .int .i64 30, .int .i64 2, .int .i64 2, .int .i64 10, .int .i64 15, .int .i64 3, .int .i64 5, .int .i64 20, .int .i64 40] 103) (.cells #[.int .i64 11, .int .i64 4, .int .i64 15, .int .i64 18, .int .i64 12, .int .i64 8, .int .i64 20, .int .i64 25] 104) (.cells #[.int .i64 21, .int .i64 1, .int .i64 1, .int .i64 2, .int .i64 36, .int .i64 40, .int .i64 22, .int .i64 3, .int .i64 6, .int .i64 0, .int .i64 50, .int .i64 55] 112)
  have e0 := Joins.cell_of_block q0 0
  have e1 := Joins.cell_of_block q0 1
  have e2 := Joins.cell_of_block q0 2
  have e3 := Joins.cell_of_block q0 3
  have e4 := Joins.cell_of_block q0 4
  go_wp2_with fail
  refine bodyPost_ret (v := .agg #[.int .i64 100, .int .i64 10, .slice (some ⟨w.heap.size + 1, 0, none⟩) 3 3, .slice (some ⟨w.heap.size + 1 + 1, 0, none⟩) 2 2, .slice (some ⟨w.heap.size + 1 + 1 + 1, 0, none⟩) 2 2]) ?_ rfl ⟨_, _, _, rfl, ⟨own_of_block 3 q1 (by omega) (by decide) rfl rfl, own_of_block 2 q2 (by omega) (by decide) rfl rfl, own_of_block 2 q3 (by omega) (by decide) rfl rfl⟩, qb⟩
  simp [results, Tryz.results68, go_sem, e0, e1, e2, e3, e4]
theorem ex_kiln {w : World} {B g1 g2 c1 c2 : Nat} {vw : Value} {k : Kl} (hl : w.ownsRow B 103 4 (.slice (some ⟨g1, 0, none⟩) 3 c1) 3 (exK.ls.flatMap rC)) (hd : w.ownsRow B 104 4 (.slice (some ⟨g2, 0, none⟩) 2 c2) 2 (exK.ds.flatMap rC)) (hw : w.ownsRow B 112 6 vw k.ws.length (k.ws.flatMap wC))
    (hk : k.room = 100 ∧ k.per = 10 ∧ k.ls = exK.ls ∧ k.ds = exK.ds) (hn : k.ws.length ≤ 20) : Kiln w (.agg #[.int .i64 100, .int .i64 10, .slice (some ⟨g1, 0, none⟩) 3 c1, .slice (some ⟨g2, 0, none⟩) 2 c2, vw]) k := by
  obtain ⟨a, b, c, d⟩ := hk
  refine ⟨_, _, _, by rw [a, b], by rw [c]; exact Sl.of_own rC_len (l := exK.ls) hl (by simp [exK]), by rw [d]; exact Sl.of_own rC_len (l := exK.ds) hd (by simp [exK]), Sl.of_own wC_len hw (by omega)⟩
section
variable {v : Value} {w : World}
theorem x_ties (hk : Kiln w v exK) : Calls Tryz.prog 18 #[v] w fun e w' => ∃ u, e = .returned (.tuple #[u, .int .i64 0]) ∧ w'.ownsRow w.heap.size 99 4 u 19 (exT.flatMap tC) ∧ Below w.heap.size w w' := by
  have := Ties_d exK v w hk; rw [show tiesE exK = exT from (if_pos ex_check).trans ex_ties, ex_check] at this; exact this
theorem x_w1 (hk : Kiln w v exK) : Calls Tryz.prog 35 #[v, .int .i64 1] w fun e w' => e = .returned (.tuple #[.agg #[.int .i64 21, .int .i64 30], .int .i64 0]) ∧ Below w.heap.size w w' := by
  have := Weight_c exK v 1 w hk; rw [ex_weight1] at this; exact this
theorem x_w3 (hk : Kiln w v exK) : Calls Tryz.prog 35 #[v, .int .i64 3] w fun e w' => e = .returned (.tuple #[.agg #[.int .i64 25, .int .i64 37], .int .i64 0]) ∧ Below w.heap.size w w' := by
  have := Weight_c exK v 3 w hk; rw [ex_weight3] at this; exact this
theorem x_held (hk : Kiln w v exK) : Calls Tryz.prog 39 #[v, .int .i64 4] w fun e w' => e = .returned (.tuple #[.agg #[.int .i64 18, .int .i64 25], .int .i64 0]) ∧ Below w.heap.size w w' := by
  have := Held_c exK v 4 w hk; rw [ex_held] at this; exact this
theorem x_below (hk : Kiln w v exK) : Calls Tryz.prog 41 #[v, .int .i64 3, .int .i64 6] w fun e w' => e = .returned (.tuple #[.agg #[.int .i64 18, .int .i64 25], .int .i64 0]) ∧ Below w.heap.size w w' := by
  have := Below_c exK v 3 6 w hk; rw [ex_below] at this; exact this
theorem x_feet (hk : Kiln w v exK) : Calls Tryz.prog 43 #[v, .int .i64 3, .int .i64 6] w fun e w' => e = .returned (.tuple #[.agg #[.int .i64 1, .int .i64 2], .int .i64 0]) ∧ Below w.heap.size w w' := by
  have := Feet_c exK v 3 6 w hk; rw [ex_feet] at this; exact this
theorem x_took2 (hk : Kiln w v exK) : Calls Tryz.prog 45 #[v, .int .i64 12, .int .i64 2] w fun e w' => e = .returned (.tuple #[.agg #[.int .i64 5, .int .i64 15], .int .i64 0]) ∧ Below w.heap.size w w' := by
  have := Took_c exK v 12 2 w hk; rw [ex_took_2] at this; exact this
theorem x_took3 (hk : Kiln w v exK) : Calls Tryz.prog 45 #[v, .int .i64 12, .int .i64 3] w fun e w' => e = .returned (.tuple #[.agg #[.int .i64 0, .int .i64 7], .int .i64 0]) ∧ Below w.heap.size w w' := by
  have := Took_c exK v 12 3 w hk; rw [ex_took_3] at this; exact this
theorem x_sources (hk : Kiln w v exK) : Calls Tryz.prog 49 #[v, .int .i64 12] w fun e w' => ∃ u1 u2, e = .returned (.tuple #[u1, u2, .int .i64 0]) ∧ (w'.ownsRow w.heap.size 3 1 u1 2 ([1, 2].map (Value.int .i64)) ∧ w'.ownsRow w.heap.size 3 1 u2 3 ([1, 2, 3].map (Value.int .i64))) ∧ Below w.heap.size w w' := by
  have := Sources_c exK v 12 w hk; rw [ex_sourceE, ex_sourceS, ex_sourceM] at this; exact this
theorem x_rests (hk : Kiln w v exK) : Calls Tryz.prog 54 #[v, .int .i64 0, .int .i64 3] w fun e w' => ∃ u, e = .returned (.tuple #[u, .int .i64 0]) ∧ w'.ownsRow w.heap.size 3 1 u 1 ([22].map (Value.int .i64)) ∧ Below w.heap.size w w' := by
  have := Rests_c exK v 0 3 w hk; rw [ex_mostE, ex_rests] at this; exact this
theorem x_find (hk : Kiln w v exC) : Calls Tryz.prog 25 #[v] w fun e w' => ∃ u, e = .returned (.tuple #[u, .int .i64 9]) ∧ OwnTruth w' w.heap.size u [] [] ∧ Below w.heap.size w w' := by
  have := Find_c exC v w hk; rw [exc_find] at this; exact this.mono fun e w' ⟨u, tl, td, h1, h2, _, h4, h5⟩ => ⟨u, h1, by obtain ⟨rfl, rfl⟩ := h4 (by decide); exact h2, h5⟩
theorem x_clash (hk : Kiln w v exC) : Calls Tryz.prog 26 #[v] w fun e w' => ∃ u p, e = .returned (.tuple #[u, .bool true, .int .i64 0]) ∧ (w'.ownsRow w.heap.size 3 1 u p.length (p.map (Value.int .i64)) ∧ clashI exC p = 0 ∧ p.length ≤ 41) ∧ Below w.heap.size w w' := by
  have := Clash_c exC v w hk; rw [exc_clash, exc_check] at this; exact this.mono fun e w' ⟨u, p, h1, h2, h3, _, h5⟩ => ⟨u, p, h1, ⟨h2, h3 rfl⟩, h5⟩
theorem sameI_t1 (u v : Value) (l : List Int) (w : World) (hu : Ints w w.heap.size u l) (hv : Ints w w.heap.size v l) : Calls Tryz.prog 53 #[u, v] w fun e w' => e = .returned (.bool true) ∧ Below w.heap.size w w' :=
  (sameInts_c u v l l w hu hv).mono fun e w' ⟨h1, h2⟩ => ⟨by rw [h1]; simp, h2⟩
end
set_option maxRecDepth 100000 in
set_option maxHeartbeats 8000000 in
theorem sanity_c (w : World) : Calls Tryz.prog 17 #[] w fun e w' => e = .returned (.bool true) ∧ Below w.heap.size w w' := by
  have heqS := Tryz.eqSp1
  have heqT := Tryz.eqTie1
  obtain ⟨i0, hi, hz0, hz1, hz2⟩ := info_parts Tryz.infoFW
  have HI := Lib.hid hi
  have HI0 := Lib.hid hz0
  have HI1 := Lib.hid hz1
  have HI2 := Lib.hid hz2
  clear hi hz0 hz1 hz2
  go_enter Tryz.func17, Tryz.ntmps17
  go_wp2_with fail
  refine (Example_c w).mono ?_
  rintro e w1 ⟨g1, g2, g3, rfl, ⟨hL, hD, hW⟩, hB⟩
  have hw1z := hB.size
  have hk := ex_kiln (k := exK) hL hD hW ⟨rfl, rfl, rfl, rfl⟩ (by decide)
  have HB := below_alloc w1 (.cells #[.int .i64 100, .int .i64 10, .slice (some ⟨g1, 0, none⟩) 3 3, .slice (some ⟨g2, 0, none⟩) 2 2, .slice (some ⟨g3, 0, none⟩) 2 2] 26)
  have bf := heap_alloc_new w1 (.cells #[.int .i64 100, .int .i64 10, .slice (some ⟨g1, 0, none⟩) 3 3, .slice (some ⟨g2, 0, none⟩) 2 2, .slice (some ⟨g3, 0, none⟩) 2 2] 26)
  have cbf0 : (w1.alloc (.cells #[.int .i64 100, .int .i64 10, .slice (some ⟨g1, 0, none⟩) 3 3, .slice (some ⟨g2, 0, none⟩) 2 2, .slice (some ⟨g3, 0, none⟩) 2 2] 26)).cell? ⟨_, 0, none⟩ = _ := Joins.cell_of_block bf 0
  have cbf1 : (w1.alloc (.cells #[.int .i64 100, .int .i64 10, .slice (some ⟨g1, 0, none⟩) 3 3, .slice (some ⟨g2, 0, none⟩) 2 2, .slice (some ⟨g3, 0, none⟩) 2 2] 26)).cell? ⟨_, 1, none⟩ = _ := Joins.cell_of_block bf 1
  have cbf2 : (w1.alloc (.cells #[.int .i64 100, .int .i64 10, .slice (some ⟨g1, 0, none⟩) 3 3, .slice (some ⟨g2, 0, none⟩) 2 2, .slice (some ⟨g3, 0, none⟩) 2 2] 26)).cell? ⟨_, 2, none⟩ = _ := Joins.cell_of_block bf 2
  have cbf3 : (w1.alloc (.cells #[.int .i64 100, .int .i64 10, .slice (some ⟨g1, 0, none⟩) 3 3, .slice (some ⟨g2, 0, none⟩) 2 2, .slice (some ⟨g3, 0, none⟩) 2 2] 26)).cell? ⟨_, 3, none⟩ = _ := Joins.cell_of_block bf 3
  have cbf4 : (w1.alloc (.cells #[.int .i64 100, .int .i64 10, .slice (some ⟨g1, 0, none⟩) 3 3, .slice (some ⟨g2, 0, none⟩) 2 2, .slice (some ⟨g3, 0, none⟩) 2 2] 26)).cell? ⟨_, 4, none⟩ = _ := Joins.cell_of_block bf 4
  go_wp2_with fail
  generalize (w1.alloc (.cells #[.int .i64 100, .int .i64 10, .slice (some ⟨g1, 0, none⟩) 3 3, .slice (some ⟨g2, 0, none⟩) 2 2, .slice (some ⟨g3, 0, none⟩) 2 2] 26)) = w2 at bf HB cbf0 cbf1 cbf2 cbf3 cbf4 ⊢
  replace hk := hk.later HB
  replace hL := own_later hL HB
  replace hD := own_later hD HB
  replace hW := own_later hW HB
  replace hB := below_then hB HB
  clear HB
  clear cbf0 cbf1 cbf2 cbf3 cbf4
  refine (x_ties hk).mono ?_
  rintro e w3 ⟨vT, rfl, hT, hF⟩
  replace bf := (hF.block _ (size_of_block bf)).trans bf
  replace hk := hk.later hF
  replace hL := own_later hL hF
  replace hD := own_later hD hF
  replace hW := own_later hW hF
  replace hB := below_then hB hF
  clear hF
  obtain ⟨gT, cT, rfl⟩ : ∃ g c, vT = .slice (some ⟨g, 0, none⟩) 19 c := by
    rcases hT.2 with ⟨_, h⟩ | ⟨g, c, _, rfl, _⟩
    · omega
    · exact ⟨g, c, rfl⟩
  have cbf0 : w3.cell? ⟨_, 0, none⟩ = _ := Joins.cell_of_block bf 0
  have cbf1 : w3.cell? ⟨_, 1, none⟩ = _ := Joins.cell_of_block bf 1
  have cbf2 : w3.cell? ⟨_, 2, none⟩ = _ := Joins.cell_of_block bf 2
  have cbf3 : w3.cell? ⟨_, 3, none⟩ = _ := Joins.cell_of_block bf 3
  have cbf4 : w3.cell? ⟨_, 4, none⟩ = _ := Joins.cell_of_block bf 4
  have zbf := size_of_block bf
  go_wp2_with fail
  clear cbf0 cbf1 cbf2 cbf3 cbf4 zbf
  refine (x_w1 hk).mono ?_
  rintro e w4 ⟨rfl, hF⟩
  replace bf := (hF.block _ (size_of_block bf)).trans bf
  replace hk := hk.later hF
  replace hL := own_later hL hF
  replace hD := own_later hD hF
  replace hW := own_later hW hF
  replace hT := own_later hT hF
  replace hB := below_then hB hF
  clear hF
  have HB := below_alloc w4 (.cells #[.int .i64 21, .int .i64 30] 63)
  have b1 := heap_alloc_new w4 (.cells #[.int .i64 21, .int .i64 30] 63)
  have cbf0 : (w4.alloc (.cells #[.int .i64 21, .int .i64 30] 63)).cell? ⟨_, 0, none⟩ = _ := Joins.cell_of_block ((HB.block _ (size_of_block bf)).trans bf) 0
  have cbf1 : (w4.alloc (.cells #[.int .i64 21, .int .i64 30] 63)).cell? ⟨_, 1, none⟩ = _ := Joins.cell_of_block ((HB.block _ (size_of_block bf)).trans bf) 1
  have cbf2 : (w4.alloc (.cells #[.int .i64 21, .int .i64 30] 63)).cell? ⟨_, 2, none⟩ = _ := Joins.cell_of_block ((HB.block _ (size_of_block bf)).trans bf) 2
  have cbf3 : (w4.alloc (.cells #[.int .i64 21, .int .i64 30] 63)).cell? ⟨_, 3, none⟩ = _ := Joins.cell_of_block ((HB.block _ (size_of_block bf)).trans bf) 3
  have cbf4 : (w4.alloc (.cells #[.int .i64 21, .int .i64 30] 63)).cell? ⟨_, 4, none⟩ = _ := Joins.cell_of_block ((HB.block _ (size_of_block bf)).trans bf) 4
  have zbf := size_of_block bf
  go_wp2_with fail
  generalize (w4.alloc (.cells #[.int .i64 21, .int .i64 30] 63)) = w5 at b1 HB cbf0 cbf1 cbf2 cbf3 cbf4 ⊢
  replace bf := (HB.block _ (size_of_block bf)).trans bf
  replace hk := hk.later HB
  replace hL := own_later hL HB
  replace hD := own_later hD HB
  replace hW := own_later hW HB
  replace hT := own_later hT HB
  replace hB := below_then hB HB
  clear HB
  clear cbf0 cbf1 cbf2 cbf3 cbf4 zbf
  refine (x_w3 hk).mono ?_
  rintro e w6 ⟨rfl, hF⟩
  replace bf := (hF.block _ (size_of_block bf)).trans bf
  replace b1 := (hF.block _ (size_of_block b1)).trans b1
  replace hk := hk.later hF
  replace hL := own_later hL hF
  replace hD := own_later hD hF
  replace hW := own_later hW hF
  replace hT := own_later hT hF
  replace hB := below_then hB hF
  clear hF
  have HB := below_alloc w6 (.cells #[.int .i64 25, .int .i64 37] 63)
  have b2 := heap_alloc_new w6 (.cells #[.int .i64 25, .int .i64 37] 63)
  have cbf0 : (w6.alloc (.cells #[.int .i64 25, .int .i64 37] 63)).cell? ⟨_, 0, none⟩ = _ := Joins.cell_of_block ((HB.block _ (size_of_block bf)).trans bf) 0
  have cbf1 : (w6.alloc (.cells #[.int .i64 25, .int .i64 37] 63)).cell? ⟨_, 1, none⟩ = _ := Joins.cell_of_block ((HB.block _ (size_of_block bf)).trans bf) 1
  have cbf2 : (w6.alloc (.cells #[.int .i64 25, .int .i64 37] 63)).cell? ⟨_, 2, none⟩ = _ := Joins.cell_of_block ((HB.block _ (size_of_block bf)).trans bf) 2
  have cbf3 : (w6.alloc (.cells #[.int .i64 25, .int .i64 37] 63)).cell? ⟨_, 3, none⟩ = _ := Joins.cell_of_block ((HB.block _ (size_of_block bf)).trans bf) 3
  have cbf4 : (w6.alloc (.cells #[.int .i64 25, .int .i64 37] 63)).cell? ⟨_, 4, none⟩ = _ := Joins.cell_of_block ((HB.block _ (size_of_block bf)).trans bf) 4
  have zbf := size_of_block bf
  go_wp2_with fail
  generalize (w6.alloc (.cells #[.int .i64 25, .int .i64 37] 63)) = w7 at b2 HB cbf0 cbf1 cbf2 cbf3 cbf4 ⊢
  replace bf := (HB.block _ (size_of_block bf)).trans bf
  replace b1 := (HB.block _ (size_of_block b1)).trans b1
  replace hk := hk.later HB
  replace hL := own_later hL HB
  replace hD := own_later hD HB
  replace hW := own_later hW HB
  replace hT := own_later hT HB
  replace hB := below_then hB HB
  clear HB
  clear cbf0 cbf1 cbf2 cbf3 cbf4 zbf
  refine (x_held hk).mono ?_
  rintro e w8 ⟨rfl, hF⟩
  replace bf := (hF.block _ (size_of_block bf)).trans bf
  replace b1 := (hF.block _ (size_of_block b1)).trans b1
  replace b2 := (hF.block _ (size_of_block b2)).trans b2
  replace hk := hk.later hF
  replace hL := own_later hL hF
  replace hD := own_later hD hF
  replace hW := own_later hW hF
  replace hT := own_later hT hF
  replace hB := below_then hB hF
  clear hF
  have HB := below_alloc w8 (.cells #[.int .i64 18, .int .i64 25] 63)
  have b3 := heap_alloc_new w8 (.cells #[.int .i64 18, .int .i64 25] 63)
  have cbf0 : (w8.alloc (.cells #[.int .i64 18, .int .i64 25] 63)).cell? ⟨_, 0, none⟩ = _ := Joins.cell_of_block ((HB.block _ (size_of_block bf)).trans bf) 0
  have cbf1 : (w8.alloc (.cells #[.int .i64 18, .int .i64 25] 63)).cell? ⟨_, 1, none⟩ = _ := Joins.cell_of_block ((HB.block _ (size_of_block bf)).trans bf) 1
  have cbf2 : (w8.alloc (.cells #[.int .i64 18, .int .i64 25] 63)).cell? ⟨_, 2, none⟩ = _ := Joins.cell_of_block ((HB.block _ (size_of_block bf)).trans bf) 2
  have cbf3 : (w8.alloc (.cells #[.int .i64 18, .int .i64 25] 63)).cell? ⟨_, 3, none⟩ = _ := Joins.cell_of_block ((HB.block _ (size_of_block bf)).trans bf) 3
  have cbf4 : (w8.alloc (.cells #[.int .i64 18, .int .i64 25] 63)).cell? ⟨_, 4, none⟩ = _ := Joins.cell_of_block ((HB.block _ (size_of_block bf)).trans bf) 4
  have zbf := size_of_block bf
  go_wp2_with fail
  generalize (w8.alloc (.cells #[.int .i64 18, .int .i64 25] 63)) = w9 at b3 HB cbf0 cbf1 cbf2 cbf3 cbf4 ⊢
  replace bf := (HB.block _ (size_of_block bf)).trans bf
  replace b1 := (HB.block _ (size_of_block b1)).trans b1
  replace b2 := (HB.block _ (size_of_block b2)).trans b2
  replace hk := hk.later HB
  replace hL := own_later hL HB
  replace hD := own_later hD HB
  replace hW := own_later hW HB
  replace hT := own_later hT HB
  replace hB := below_then hB HB
  clear HB
  clear cbf0 cbf1 cbf2 cbf3 cbf4 zbf
  refine (x_below hk).mono ?_
  rintro e w10 ⟨rfl, hF⟩
  replace bf := (hF.block _ (size_of_block bf)).trans bf
  replace b1 := (hF.block _ (size_of_block b1)).trans b1
  replace b2 := (hF.block _ (size_of_block b2)).trans b2
  replace b3 := (hF.block _ (size_of_block b3)).trans b3
  replace hk := hk.later hF
  replace hL := own_later hL hF
  replace hD := own_later hD hF
  replace hW := own_later hW hF
  replace hT := own_later hT hF
  replace hB := below_then hB hF
  clear hF
  have HB := below_alloc w10 (.cells #[.int .i64 18, .int .i64 25] 63)
  have b4 := heap_alloc_new w10 (.cells #[.int .i64 18, .int .i64 25] 63)
  have cbf0 : (w10.alloc (.cells #[.int .i64 18, .int .i64 25] 63)).cell? ⟨_, 0, none⟩ = _ := Joins.cell_of_block ((HB.block _ (size_of_block bf)).trans bf) 0
  have cbf1 : (w10.alloc (.cells #[.int .i64 18, .int .i64 25] 63)).cell? ⟨_, 1, none⟩ = _ := Joins.cell_of_block ((HB.block _ (size_of_block bf)).trans bf) 1
  have cbf2 : (w10.alloc (.cells #[.int .i64 18, .int .i64 25] 63)).cell? ⟨_, 2, none⟩ = _ := Joins.cell_of_block ((HB.block _ (size_of_block bf)).trans bf) 2
  have cbf3 : (w10.alloc (.cells #[.int .i64 18, .int .i64 25] 63)).cell? ⟨_, 3, none⟩ = _ := Joins.cell_of_block ((HB.block _ (size_of_block bf)).trans bf) 3
  have cbf4 : (w10.alloc (.cells #[.int .i64 18, .int .i64 25] 63)).cell? ⟨_, 4, none⟩ = _ := Joins.cell_of_block ((HB.block _ (size_of_block bf)).trans bf) 4
  have zbf := size_of_block bf
  go_wp2_with fail
  generalize (w10.alloc (.cells #[.int .i64 18, .int .i64 25] 63)) = w11 at b4 HB cbf0 cbf1 cbf2 cbf3 cbf4 ⊢
  replace bf := (HB.block _ (size_of_block bf)).trans bf
  replace b1 := (HB.block _ (size_of_block b1)).trans b1
  replace b2 := (HB.block _ (size_of_block b2)).trans b2
  replace b3 := (HB.block _ (size_of_block b3)).trans b3
  replace hk := hk.later HB
  replace hL := own_later hL HB
  replace hD := own_later hD HB
  replace hW := own_later hW HB
  replace hT := own_later hT HB
  replace hB := below_then hB HB
  clear HB
  clear cbf0 cbf1 cbf2 cbf3 cbf4 zbf
  refine (x_feet hk).mono ?_
  rintro e w12 ⟨rfl, hF⟩
  replace bf := (hF.block _ (size_of_block bf)).trans bf
  replace b1 := (hF.block _ (size_of_block b1)).trans b1
  replace b2 := (hF.block _ (size_of_block b2)).trans b2
  replace b3 := (hF.block _ (size_of_block b3)).trans b3
  replace b4 := (hF.block _ (size_of_block b4)).trans b4
  replace hk := hk.later hF
  replace hL := own_later hL hF
  replace hD := own_later hD hF
  replace hW := own_later hW hF
  replace hT := own_later hT hF
  replace hB := below_then hB hF
  clear hF
  have HB := below_alloc w12 (.cells #[.int .i64 1, .int .i64 2] 63)
  have b5 := heap_alloc_new w12 (.cells #[.int .i64 1, .int .i64 2] 63)
  have cbf0 : (w12.alloc (.cells #[.int .i64 1, .int .i64 2] 63)).cell? ⟨_, 0, none⟩ = _ := Joins.cell_of_block ((HB.block _ (size_of_block bf)).trans bf) 0
  have cbf1 : (w12.alloc (.cells #[.int .i64 1, .int .i64 2] 63)).cell? ⟨_, 1, none⟩ = _ := Joins.cell_of_block ((HB.block _ (size_of_block bf)).trans bf) 1
  have cbf2 : (w12.alloc (.cells #[.int .i64 1, .int .i64 2] 63)).cell? ⟨_, 2, none⟩ = _ := Joins.cell_of_block ((HB.block _ (size_of_block bf)).trans bf) 2
  have cbf3 : (w12.alloc (.cells #[.int .i64 1, .int .i64 2] 63)).cell? ⟨_, 3, none⟩ = _ := Joins.cell_of_block ((HB.block _ (size_of_block bf)).trans bf) 3
  have cbf4 : (w12.alloc (.cells #[.int .i64 1, .int .i64 2] 63)).cell? ⟨_, 4, none⟩ = _ := Joins.cell_of_block ((HB.block _ (size_of_block bf)).trans bf) 4
  have zbf := size_of_block bf
  go_wp2_with fail
  generalize (w12.alloc (.cells #[.int .i64 1, .int .i64 2] 63)) = w13 at b5 HB cbf0 cbf1 cbf2 cbf3 cbf4 ⊢
  replace bf := (HB.block _ (size_of_block bf)).trans bf
  replace b1 := (HB.block _ (size_of_block b1)).trans b1
  replace b2 := (HB.block _ (size_of_block b2)).trans b2
  replace b3 := (HB.block _ (size_of_block b3)).trans b3
  replace b4 := (HB.block _ (size_of_block b4)).trans b4
  replace hk := hk.later HB
  replace hL := own_later hL HB
  replace hD := own_later hD HB
  replace hW := own_later hW HB
  replace hT := own_later hT HB
  replace hB := below_then hB HB
  clear HB
  clear cbf0 cbf1 cbf2 cbf3 cbf4 zbf
  refine (x_took2 hk).mono ?_
  rintro e w14 ⟨rfl, hF⟩
  replace bf := (hF.block _ (size_of_block bf)).trans bf
  replace b1 := (hF.block _ (size_of_block b1)).trans b1
  replace b2 := (hF.block _ (size_of_block b2)).trans b2
  replace b3 := (hF.block _ (size_of_block b3)).trans b3
  replace b4 := (hF.block _ (size_of_block b4)).trans b4
  replace b5 := (hF.block _ (size_of_block b5)).trans b5
  replace hk := hk.later hF
  replace hL := own_later hL hF
  replace hD := own_later hD hF
  replace hW := own_later hW hF
  replace hT := own_later hT hF
  replace hB := below_then hB hF
  clear hF
  have HB := below_alloc w14 (.cells #[.int .i64 5, .int .i64 15] 63)
  have b6 := heap_alloc_new w14 (.cells #[.int .i64 5, .int .i64 15] 63)
  have cbf0 : (w14.alloc (.cells #[.int .i64 5, .int .i64 15] 63)).cell? ⟨_, 0, none⟩ = _ := Joins.cell_of_block ((HB.block _ (size_of_block bf)).trans bf) 0
  have cbf1 : (w14.alloc (.cells #[.int .i64 5, .int .i64 15] 63)).cell? ⟨_, 1, none⟩ = _ := Joins.cell_of_block ((HB.block _ (size_of_block bf)).trans bf) 1
  have cbf2 : (w14.alloc (.cells #[.int .i64 5, .int .i64 15] 63)).cell? ⟨_, 2, none⟩ = _ := Joins.cell_of_block ((HB.block _ (size_of_block bf)).trans bf) 2
  have cbf3 : (w14.alloc (.cells #[.int .i64 5, .int .i64 15] 63)).cell? ⟨_, 3, none⟩ = _ := Joins.cell_of_block ((HB.block _ (size_of_block bf)).trans bf) 3
  have cbf4 : (w14.alloc (.cells #[.int .i64 5, .int .i64 15] 63)).cell? ⟨_, 4, none⟩ = _ := Joins.cell_of_block ((HB.block _ (size_of_block bf)).trans bf) 4
  have zbf := size_of_block bf
  go_wp2_with fail
  generalize (w14.alloc (.cells #[.int .i64 5, .int .i64 15] 63)) = w15 at b6 HB cbf0 cbf1 cbf2 cbf3 cbf4 ⊢
  replace bf := (HB.block _ (size_of_block bf)).trans bf
  replace b1 := (HB.block _ (size_of_block b1)).trans b1
  replace b2 := (HB.block _ (size_of_block b2)).trans b2
  replace b3 := (HB.block _ (size_of_block b3)).trans b3
  replace b4 := (HB.block _ (size_of_block b4)).trans b4
  replace b5 := (HB.block _ (size_of_block b5)).trans b5
  replace hk := hk.later HB
  replace hL := own_later hL HB
  replace hD := own_later hD HB
  replace hW := own_later hW HB
  replace hT := own_later hT HB
  replace hB := below_then hB HB
  clear HB
  clear cbf0 cbf1 cbf2 cbf3 cbf4 zbf
  refine (x_took3 hk).mono ?_
  rintro e w16 ⟨rfl, hF⟩
  replace bf := (hF.block _ (size_of_block bf)).trans bf
  replace b1 := (hF.block _ (size_of_block b1)).trans b1
  replace b2 := (hF.block _ (size_of_block b2)).trans b2
  replace b3 := (hF.block _ (size_of_block b3)).trans b3
  replace b4 := (hF.block _ (size_of_block b4)).trans b4
  replace b5 := (hF.block _ (size_of_block b5)).trans b5
  replace b6 := (hF.block _ (size_of_block b6)).trans b6
  replace hk := hk.later hF
  replace hL := own_later hL hF
  replace hD := own_later hD hF
  replace hW := own_later hW hF
  replace hT := own_later hT hF
  replace hB := below_then hB hF
  clear hF
  have HB := below_alloc w16 (.cells #[.int .i64 0, .int .i64 7] 63)
  have b7 := heap_alloc_new w16 (.cells #[.int .i64 0, .int .i64 7] 63)
  have cbf0 : (w16.alloc (.cells #[.int .i64 0, .int .i64 7] 63)).cell? ⟨_, 0, none⟩ = _ := Joins.cell_of_block ((HB.block _ (size_of_block bf)).trans bf) 0
  have cbf1 : (w16.alloc (.cells #[.int .i64 0, .int .i64 7] 63)).cell? ⟨_, 1, none⟩ = _ := Joins.cell_of_block ((HB.block _ (size_of_block bf)).trans bf) 1
  have cbf2 : (w16.alloc (.cells #[.int .i64 0, .int .i64 7] 63)).cell? ⟨_, 2, none⟩ = _ := Joins.cell_of_block ((HB.block _ (size_of_block bf)).trans bf) 2
  have cbf3 : (w16.alloc (.cells #[.int .i64 0, .int .i64 7] 63)).cell? ⟨_, 3, none⟩ = _ := Joins.cell_of_block ((HB.block _ (size_of_block bf)).trans bf) 3
  have cbf4 : (w16.alloc (.cells #[.int .i64 0, .int .i64 7] 63)).cell? ⟨_, 4, none⟩ = _ := Joins.cell_of_block ((HB.block _ (size_of_block bf)).trans bf) 4
  have zbf := size_of_block bf
  go_wp2_with fail
  generalize (w16.alloc (.cells #[.int .i64 0, .int .i64 7] 63)) = w17 at b7 HB cbf0 cbf1 cbf2 cbf3 cbf4 ⊢
  replace bf := (HB.block _ (size_of_block bf)).trans bf
  replace b1 := (HB.block _ (size_of_block b1)).trans b1
  replace b2 := (HB.block _ (size_of_block b2)).trans b2
  replace b3 := (HB.block _ (size_of_block b3)).trans b3
  replace b4 := (HB.block _ (size_of_block b4)).trans b4
  replace b5 := (HB.block _ (size_of_block b5)).trans b5
  replace b6 := (HB.block _ (size_of_block b6)).trans b6
  replace hk := hk.later HB
  replace hL := own_later hL HB
  replace hD := own_later hD HB
  replace hW := own_later hW HB
  replace hT := own_later hT HB
  replace hB := below_then hB HB
  clear HB
  clear cbf0 cbf1 cbf2 cbf3 cbf4 zbf
  refine (x_sources hk).mono ?_
  rintro e w18 ⟨u1, u2, rfl, ⟨h1, h2⟩, hF⟩
  replace bf := (hF.block _ (size_of_block bf)).trans bf
  replace b1 := (hF.block _ (size_of_block b1)).trans b1
  replace b2 := (hF.block _ (size_of_block b2)).trans b2
  replace b3 := (hF.block _ (size_of_block b3)).trans b3
  replace b4 := (hF.block _ (size_of_block b4)).trans b4
  replace b5 := (hF.block _ (size_of_block b5)).trans b5
  replace b6 := (hF.block _ (size_of_block b6)).trans b6
  replace b7 := (hF.block _ (size_of_block b7)).trans b7
  replace hk := hk.later hF
  replace hL := own_later hL hF
  replace hD := own_later hD hF
  replace hW := own_later hW hF
  replace hT := own_later hT hF
  replace hB := below_then hB hF
  clear hF
  have cbf0 : w18.cell? ⟨_, 0, none⟩ = _ := Joins.cell_of_block bf 0
  have cbf1 : w18.cell? ⟨_, 1, none⟩ = _ := Joins.cell_of_block bf 1
  have cbf2 : w18.cell? ⟨_, 2, none⟩ = _ := Joins.cell_of_block bf 2
  have cbf3 : w18.cell? ⟨_, 3, none⟩ = _ := Joins.cell_of_block bf 3
  have cbf4 : w18.cell? ⟨_, 4, none⟩ = _ := Joins.cell_of_block bf 4
  have zbf := size_of_block bf
  go_wp2_with fail
  clear cbf0 cbf1 cbf2 cbf3 cbf4 zbf
  refine (x_rests hk).mono ?_
  rintro e w19 ⟨u3, rfl, h3, hF⟩
  replace bf := (hF.block _ (size_of_block bf)).trans bf
  replace b1 := (hF.block _ (size_of_block b1)).trans b1
  replace b2 := (hF.block _ (size_of_block b2)).trans b2
  replace b3 := (hF.block _ (size_of_block b3)).trans b3
  replace b4 := (hF.block _ (size_of_block b4)).trans b4
  replace b5 := (hF.block _ (size_of_block b5)).trans b5
  replace b6 := (hF.block _ (size_of_block b6)).trans b6
  replace b7 := (hF.block _ (size_of_block b7)).trans b7
  replace hk := hk.later hF
  replace hL := own_later hL hF
  replace hD := own_later hD hF
  replace hW := own_later hW hF
  replace hT := own_later hT hF
  replace h1 := own_later h1 hF
  replace h2 := own_later h2 hF
  replace hB := below_then hB hF
  clear hF
  have f4 := Joins.unfrozen_of_block bf 4
  have cbf0 := Joins.cell_of_block bf 0
  have cbf1 := Joins.cell_of_block bf 1
  have cbf2 := Joins.cell_of_block bf 2
  have cbf3 := Joins.cell_of_block bf 3
  have cbf4 := Joins.cell_of_block bf 4
  have zbf := size_of_block bf
  have HB := below_alloc w19 (.cells #[.int .i64 23, .int .i64 1, .int .i64 1, .int .i64 1, .int .i64 31, .int .i64 33] 112)
  go_wp2_with (at_builtin; refine wpList_append_own _ rfl _ _ 24 rfl w.heap.size 112 i0 (.agg #[.int .i64 0, .int .i64 0, .int .i64 0, .int .i64 0, .int .i64 0, .int .i64 0]) 6 48 Tryz.underlying24 HI.out HI0.out HI1.out HI2.out rfl (by decide) _ _ _ rfl (hW.alloc _) ⟨w19.heap.size, 0, none⟩ 1 1 #[.int .i64 23, .int .i64 1, .int .i64 1, .int .i64 1, .int .i64 31, .int .i64 33].toList rfl rfl (cells_new1 _ _ _) ?c2 (by decide) (by decide) ?c5 ?_)
  case c2 => exact ⟨rfl, rfl, rfl, rfl⟩
  case c5 => have := hB.size; simp; omega
  intro v4 w4 hown4 hgrow _
  clear f4 cbf0 cbf1 cbf2 cbf3 cbf4 zbf hk
  replace bf := (hgrow.block _ (size_of_block ((HB.block _ (size_of_block bf)).trans bf)) (Ne.symm (own_ne_block (hW.alloc _) ((HB.block _ (size_of_block bf)).trans bf) (by decide)))).trans ((HB.block _ (size_of_block bf)).trans bf)
  replace b1 := (hgrow.block _ (size_of_block ((HB.block _ (size_of_block b1)).trans b1)) (Ne.symm (own_ne_block (hW.alloc _) ((HB.block _ (size_of_block b1)).trans b1) (by decide)))).trans ((HB.block _ (size_of_block b1)).trans b1)
  replace b2 := (hgrow.block _ (size_of_block ((HB.block _ (size_of_block b2)).trans b2)) (Ne.symm (own_ne_block (hW.alloc _) ((HB.block _ (size_of_block b2)).trans b2) (by decide)))).trans ((HB.block _ (size_of_block b2)).trans b2)
  replace b3 := (hgrow.block _ (size_of_block ((HB.block _ (size_of_block b3)).trans b3)) (Ne.symm (own_ne_block (hW.alloc _) ((HB.block _ (size_of_block b3)).trans b3) (by decide)))).trans ((HB.block _ (size_of_block b3)).trans b3)
  replace b4 := (hgrow.block _ (size_of_block ((HB.block _ (size_of_block b4)).trans b4)) (Ne.symm (own_ne_block (hW.alloc _) ((HB.block _ (size_of_block b4)).trans b4) (by decide)))).trans ((HB.block _ (size_of_block b4)).trans b4)
  replace b5 := (hgrow.block _ (size_of_block ((HB.block _ (size_of_block b5)).trans b5)) (Ne.symm (own_ne_block (hW.alloc _) ((HB.block _ (size_of_block b5)).trans b5) (by decide)))).trans ((HB.block _ (size_of_block b5)).trans b5)
  replace b6 := (hgrow.block _ (size_of_block ((HB.block _ (size_of_block b6)).trans b6)) (Ne.symm (own_ne_block (hW.alloc _) ((HB.block _ (size_of_block b6)).trans b6) (by decide)))).trans ((HB.block _ (size_of_block b6)).trans b6)
  replace b7 := (hgrow.block _ (size_of_block ((HB.block _ (size_of_block b7)).trans b7)) (Ne.symm (own_ne_block (hW.alloc _) ((HB.block _ (size_of_block b7)).trans b7) (by decide)))).trans ((HB.block _ (size_of_block b7)).trans b7)
  replace hL := (own_later hL HB).kept hgrow (.inr (own_apart (hW.alloc _) (own_later hL HB) rfl (by decide)))
  replace hD := (own_later hD HB).kept hgrow (.inr (own_apart (hW.alloc _) (own_later hD HB) rfl (by decide)))
  replace hT := (own_later hT HB).kept hgrow (.inr (own_apart (hW.alloc _) (own_later hT HB) rfl (by decide)))
  replace h1 := (own_later h1 HB).kept hgrow (.inr (own_apart (hW.alloc _) (own_later h1 HB) rfl (by decide)))
  replace h2 := (own_later h2 HB).kept hgrow (.inr (own_apart (hW.alloc _) (own_later h2 HB) rfl (by decide)))
  replace h3 := (own_later h3 HB).kept hgrow (.inr (own_apart (hW.alloc _) (own_later h3 HB) rfl (by decide)))
  replace hB := below_append hB hB.size hW hgrow
  clear hW HB hgrow
  replace hown4 : w4.ownsRow w.heap.size 112 6 v4 3 (exC.ws.flatMap wC) := hown4
  obtain ⟨A4, c4, rfl⟩ := own_form hown4
  have f4 := Joins.unfrozen_of_block bf 4
  have cbf4 := Joins.cell_of_block bf 4
  have zbf := size_of_block bf
  have hfg : w.heap.size ≤ w1.heap.size := hw1z
  have bf4 := Joins.block_setCell (i := 4) bf (.slice A4 3 c4)
  have b14 := (put_other (i := 4) (.slice A4 3 c4) (show _ ≠ w1.heap.size from fun h => by rw [h] at b1; rw [b1] at bf; cases bf)).trans b1
  have b24 := (put_other (i := 4) (.slice A4 3 c4) (show _ ≠ w1.heap.size from fun h => by rw [h] at b2; rw [b2] at bf; cases bf)).trans b2
  have b34 := (put_other (i := 4) (.slice A4 3 c4) (show _ ≠ w1.heap.size from fun h => by rw [h] at b3; rw [b3] at bf; cases bf)).trans b3
  have b44 := (put_other (i := 4) (.slice A4 3 c4) (show _ ≠ w1.heap.size from fun h => by rw [h] at b4; rw [b4] at bf; cases bf)).trans b4
  have b54 := (put_other (i := 4) (.slice A4 3 c4) (show _ ≠ w1.heap.size from fun h => by rw [h] at b5; rw [b5] at bf; cases bf)).trans b5
  have b64 := (put_other (i := 4) (.slice A4 3 c4) (show _ ≠ w1.heap.size from fun h => by rw [h] at b6; rw [b6] at bf; cases bf)).trans b6
  have b74 := (put_other (i := 4) (.slice A4 3 c4) (show _ ≠ w1.heap.size from fun h => by rw [h] at b7; rw [b7] at bf; cases bf)).trans b7
  have hL4 := own_setCell hL 4 (.slice A4 3 c4) (own_ne_block hL bf (by decide))
  have hD4 := own_setCell hD 4 (.slice A4 3 c4) (own_ne_block hD bf (by decide))
  have hT4 := own_setCell hT 4 (.slice A4 3 c4) (own_ne_block hT bf (by decide))
  have h14 := own_setCell h1 4 (.slice A4 3 c4) (own_ne_block h1 bf (by decide))
  have h24 := own_setCell h2 4 (.slice A4 3 c4) (own_ne_block h2 bf (by decide))
  have h34 := own_setCell h3 4 (.slice A4 3 c4) (own_ne_block h3 bf (by decide))
  have hown44 := own_setCell hown4 4 (.slice A4 3 c4) (own_ne_block hown4 bf (by decide))
  have hB4 := below_set (i := 4) (v := .slice A4 3 c4) hB hfg
  have hk4 := ex_kiln (k := exC) hL4 hD4 hown44 ⟨rfl, rfl, rfl, rfl⟩ (by decide)
  have HK4 := Lib.hid hk4
  clear hk4 hown4 hown44 hL4 hD4 hL hD
  clear hT h1 h2 h3 b1 b2 b3 b4 b5 b6 b7
  clear hB
  have HWB : Hid (w4.heap.size = (w4.setCell ⟨w1.heap.size, 4, none⟩ (.slice A4 3 c4)).heap.size) := by show w4.heap.size = _; simp
  obtain ⟨w5, hw5⟩ : ∃ W, W = w4.setCell ⟨w1.heap.size, 4, none⟩ (.slice A4 3 c4) := ⟨_, rfl⟩
  have HW5 := Lib.hid hw5
  clear HWB
  rw [← hw5] at bf4 b14 b24 b34 b44 b54 b64 b74 hT4 h14 h24 h34 hB4 HK4
  clear hw5
  have hk := HK4.out
  clear HK4
  have cbf0 := Joins.cell_of_block bf4 0
  have cbf1 := Joins.cell_of_block bf4 1
  have cbf2 := Joins.cell_of_block bf4 2
  have cbf3 := Joins.cell_of_block bf4 3
  have cbf4 := Joins.cell_of_block bf4 4
  have zb4 := size_of_block bf4
  have f4w := HW5.out
  rw [f4w] at cbf0 cbf1 cbf2 cbf3 cbf4 zb4
  clear f4w
  go_wp2_with fail
  rw [← HW5.out]
  clear f4 cbf0 cbf1 cbf2 cbf3 cbf4 zbf zb4 bf HW5
  have bf := bf4
  have b1 := b14
  have b2 := b24
  have b3 := b34
  have b4 := b44
  have b5 := b54
  have b6 := b64
  have b7 := b74
  have hT := hT4
  have h1 := h14
  have h2 := h24
  have h3 := h34
  have hB := hB4
  clear bf4 b14 b24 b34 b44 b54 b64 b74 hT4 h14 h24 h34 hB4
  refine (x_find hk).mono ?_
  rintro e w101 ⟨ut, rfl, hOT, hF⟩
  replace bf := (hF.block _ (size_of_block bf)).trans bf
  replace b1 := (hF.block _ (size_of_block b1)).trans b1
  replace b2 := (hF.block _ (size_of_block b2)).trans b2
  replace b3 := (hF.block _ (size_of_block b3)).trans b3
  replace b4 := (hF.block _ (size_of_block b4)).trans b4
  replace b5 := (hF.block _ (size_of_block b5)).trans b5
  replace b6 := (hF.block _ (size_of_block b6)).trans b6
  replace b7 := (hF.block _ (size_of_block b7)).trans b7
  replace hk := hk.later hF
  replace hT := own_later hT hF
  replace h1 := own_later h1 hF
  replace h2 := own_later h2 hF
  replace h3 := own_later h3 hF
  replace hB := below_then hB hF
  clear hF
  obtain ⟨Ta, ca, Tb, cb, rfl⟩ := hOT.form
  clear hOT
  simp only [List.length_nil]
  have HB := below_alloc w101 (.cells #[.slice Ta 0 ca, .slice Tb 0 cb] 29)
  have bt := heap_alloc_new w101 (.cells #[.slice Ta 0 ca, .slice Tb 0 cb] 29)
  have cbf0 : (w101.alloc (.cells #[.slice Ta 0 ca, .slice Tb 0 cb] 29)).cell? ⟨_, 0, none⟩ = _ := Joins.cell_of_block ((HB.block _ (size_of_block bf)).trans bf) 0
  have cbf1 : (w101.alloc (.cells #[.slice Ta 0 ca, .slice Tb 0 cb] 29)).cell? ⟨_, 1, none⟩ = _ := Joins.cell_of_block ((HB.block _ (size_of_block bf)).trans bf) 1
  have cbf2 : (w101.alloc (.cells #[.slice Ta 0 ca, .slice Tb 0 cb] 29)).cell? ⟨_, 2, none⟩ = _ := Joins.cell_of_block ((HB.block _ (size_of_block bf)).trans bf) 2
  have cbf3 : (w101.alloc (.cells #[.slice Ta 0 ca, .slice Tb 0 cb] 29)).cell? ⟨_, 3, none⟩ = _ := Joins.cell_of_block ((HB.block _ (size_of_block bf)).trans bf) 3
  have cbf4 : (w101.alloc (.cells #[.slice Ta 0 ca, .slice Tb 0 cb] 29)).cell? ⟨_, 4, none⟩ = _ := Joins.cell_of_block ((HB.block _ (size_of_block bf)).trans bf) 4
  have zbf := size_of_block bf
  go_wp2_with fail
  generalize (w101.alloc (.cells #[.slice Ta 0 ca, .slice Tb 0 cb] 29)) = w102 at bt HB cbf0 cbf1 cbf2 cbf3 cbf4 ⊢
  replace bf := (HB.block _ (size_of_block bf)).trans bf
  replace b1 := (HB.block _ (size_of_block b1)).trans b1
  replace b2 := (HB.block _ (size_of_block b2)).trans b2
  replace b3 := (HB.block _ (size_of_block b3)).trans b3
  replace b4 := (HB.block _ (size_of_block b4)).trans b4
  replace b5 := (HB.block _ (size_of_block b5)).trans b5
  replace b6 := (HB.block _ (size_of_block b6)).trans b6
  replace b7 := (HB.block _ (size_of_block b7)).trans b7
  replace hk := hk.later HB
  replace hT := own_later hT HB
  replace h1 := own_later h1 HB
  replace h2 := own_later h2 HB
  replace h3 := own_later h3 HB
  replace hB := below_then hB HB
  clear HB
  clear cbf0 cbf1 cbf2 cbf3 cbf4 zbf
  refine (x_clash hk).mono ?_
  rintro e w103 ⟨uc, pc, rfl, ⟨h4, HC1, _⟩, hF⟩
  replace bf := (hF.block _ (size_of_block bf)).trans bf
  replace b1 := (hF.block _ (size_of_block b1)).trans b1
  replace b2 := (hF.block _ (size_of_block b2)).trans b2
  replace b3 := (hF.block _ (size_of_block b3)).trans b3
  replace b4 := (hF.block _ (size_of_block b4)).trans b4
  replace b5 := (hF.block _ (size_of_block b5)).trans b5
  replace b6 := (hF.block _ (size_of_block b6)).trans b6
  replace b7 := (hF.block _ (size_of_block b7)).trans b7
  replace bt := (hF.block _ (size_of_block bt)).trans bt
  replace hk := hk.later hF
  replace hT := own_later hT hF
  replace h1 := own_later h1 hF
  replace h2 := own_later h2 hF
  replace h3 := own_later h3 hF
  replace hB := below_then hB hF
  clear hF
  have HCL := Lib.hid HC1
  clear HC1
  have hpl : pc.length ≤ 41 := by assumption
  replace bt := bt
  clear bt
  have cb10 := Joins.cell_of_block b1 0
  have cb11 := Joins.cell_of_block b1 1
  have zb1 := size_of_block b1
  have cb20 := Joins.cell_of_block b2 0
  have cb21 := Joins.cell_of_block b2 1
  have zb2 := size_of_block b2
  have cb30 := Joins.cell_of_block b3 0
  have cb31 := Joins.cell_of_block b3 1
  have zb3 := size_of_block b3
  have cb40 := Joins.cell_of_block b4 0
  have cb41 := Joins.cell_of_block b4 1
  have zb4 := size_of_block b4
  have cb50 := Joins.cell_of_block b5 0
  have cb51 := Joins.cell_of_block b5 1
  have zb5 := size_of_block b5
  have cb60 := Joins.cell_of_block b6 0
  have cb61 := Joins.cell_of_block b6 1
  have zb6 := size_of_block b6
  have cb70 := Joins.cell_of_block b7 0
  have cb71 := Joins.cell_of_block b7 1
  have zb7 := size_of_block b7
  go_wp2_with fail
  clear cb10 cb11 zb1 cb20 cb21 zb2 cb30 cb31 zb3 cb40 cb41 zb4 cb50 cb51 zb5 cb60 cb61 zb6 cb70 cb71 zb7
  have hA := below_alloc w103 (.cells #[.int .i64 1, .int .i64 2] 3)
  refine (sameI_t1 _ _ [1, 2] _ (Ints.of_own (l := [1, 2]) (own_later h1 hA) (by simp)) (builtL nC_len w103 [1, 2] 3 _ _ 2 rfl (by simp) rfl rfl)).mono ?_
  rintro e w104 ⟨rfl, hb⟩
  have HB := below_then hA hb
  clear hA hb
  replace bf := (HB.block _ (size_of_block bf)).trans bf
  replace b1 := (HB.block _ (size_of_block b1)).trans b1
  replace b2 := (HB.block _ (size_of_block b2)).trans b2
  replace b3 := (HB.block _ (size_of_block b3)).trans b3
  replace b4 := (HB.block _ (size_of_block b4)).trans b4
  replace b5 := (HB.block _ (size_of_block b5)).trans b5
  replace b6 := (HB.block _ (size_of_block b6)).trans b6
  replace b7 := (HB.block _ (size_of_block b7)).trans b7
  replace hk := hk.later HB
  replace hT := own_later hT HB
  replace h1 := own_later h1 HB
  replace h2 := own_later h2 HB
  replace h3 := own_later h3 HB
  replace h4 := own_later h4 HB
  replace hB := below_then hB HB
  clear HB
  have cb10 := Joins.cell_of_block b1 0
  have cb11 := Joins.cell_of_block b1 1
  have zb1 := size_of_block b1
  have cb20 := Joins.cell_of_block b2 0
  have cb21 := Joins.cell_of_block b2 1
  have zb2 := size_of_block b2
  have cb30 := Joins.cell_of_block b3 0
  have cb31 := Joins.cell_of_block b3 1
  have zb3 := size_of_block b3
  have cb40 := Joins.cell_of_block b4 0
  have cb41 := Joins.cell_of_block b4 1
  have zb4 := size_of_block b4
  have cb50 := Joins.cell_of_block b5 0
  have cb51 := Joins.cell_of_block b5 1
  have zb5 := size_of_block b5
  have cb60 := Joins.cell_of_block b6 0
  have cb61 := Joins.cell_of_block b6 1
  have zb6 := size_of_block b6
  have cb70 := Joins.cell_of_block b7 0
  have cb71 := Joins.cell_of_block b7 1
  have zb7 := size_of_block b7
  go_wp2_with fail
  clear cb10 cb11 zb1 cb20 cb21 zb2 cb30 cb31 zb3 cb40 cb41 zb4 cb50 cb51 zb5 cb60 cb61 zb6 cb70 cb71 zb7
  have hA := below_alloc w104 (.cells #[.int .i64 1, .int .i64 2, .int .i64 3] 3)
  refine (sameI_t1 _ _ [1, 2, 3] _ (Ints.of_own (l := [1, 2, 3]) (own_later h2 hA) (by simp)) (builtL nC_len w104 [1, 2, 3] 3 _ _ 3 rfl (by simp) rfl rfl)).mono ?_
  rintro e w105 ⟨rfl, hb⟩
  have HB := below_then hA hb
  clear hA hb
  replace bf := (HB.block _ (size_of_block bf)).trans bf
  replace b1 := (HB.block _ (size_of_block b1)).trans b1
  replace b2 := (HB.block _ (size_of_block b2)).trans b2
  replace b3 := (HB.block _ (size_of_block b3)).trans b3
  replace b4 := (HB.block _ (size_of_block b4)).trans b4
  replace b5 := (HB.block _ (size_of_block b5)).trans b5
  replace b6 := (HB.block _ (size_of_block b6)).trans b6
  replace b7 := (HB.block _ (size_of_block b7)).trans b7
  replace hk := hk.later HB
  replace hT := own_later hT HB
  replace h1 := own_later h1 HB
  replace h2 := own_later h2 HB
  replace h3 := own_later h3 HB
  replace h4 := own_later h4 HB
  replace hB := below_then hB HB
  clear HB
  have cb10 := Joins.cell_of_block b1 0
  have cb11 := Joins.cell_of_block b1 1
  have zb1 := size_of_block b1
  have cb20 := Joins.cell_of_block b2 0
  have cb21 := Joins.cell_of_block b2 1
  have zb2 := size_of_block b2
  have cb30 := Joins.cell_of_block b3 0
  have cb31 := Joins.cell_of_block b3 1
  have zb3 := size_of_block b3
  have cb40 := Joins.cell_of_block b4 0
  have cb41 := Joins.cell_of_block b4 1
  have zb4 := size_of_block b4
  have cb50 := Joins.cell_of_block b5 0
  have cb51 := Joins.cell_of_block b5 1
  have zb5 := size_of_block b5
  have cb60 := Joins.cell_of_block b6 0
  have cb61 := Joins.cell_of_block b6 1
  have zb6 := size_of_block b6
  have cb70 := Joins.cell_of_block b7 0
  have cb71 := Joins.cell_of_block b7 1
  have zb7 := size_of_block b7
  go_wp2_with fail
  clear cb10 cb11 zb1 cb20 cb21 zb2 cb30 cb31 zb3 cb40 cb41 zb4 cb50 cb51 zb5 cb60 cb61 zb6 cb70 cb71 zb7
  have hA := below_alloc w105 (.cells #[.int .i64 22] 3)
  refine (sameI_t1 _ _ [22] _ (Ints.of_own (l := [22]) (own_later h3 hA) (by simp)) (builtL nC_len w105 [22] 3 _ _ 1 rfl (by simp) rfl rfl)).mono ?_
  rintro e w106 ⟨rfl, hb⟩
  have HB := below_then hA hb
  clear hA hb
  replace bf := (HB.block _ (size_of_block bf)).trans bf
  replace b1 := (HB.block _ (size_of_block b1)).trans b1
  replace b2 := (HB.block _ (size_of_block b2)).trans b2
  replace b3 := (HB.block _ (size_of_block b3)).trans b3
  replace b4 := (HB.block _ (size_of_block b4)).trans b4
  replace b5 := (HB.block _ (size_of_block b5)).trans b5
  replace b6 := (HB.block _ (size_of_block b6)).trans b6
  replace b7 := (HB.block _ (size_of_block b7)).trans b7
  replace hk := hk.later HB
  replace hT := own_later hT HB
  replace h1 := own_later h1 HB
  replace h2 := own_later h2 HB
  replace h3 := own_later h3 HB
  replace h4 := own_later h4 HB
  replace hB := below_then hB HB
  clear HB
  have cbf0 := Joins.cell_of_block bf 0
  have cbf1 := Joins.cell_of_block bf 1
  have cbf2 := Joins.cell_of_block bf 2
  have cbf3 := Joins.cell_of_block bf 3
  have cbf4 := Joins.cell_of_block bf 4
  have zbf := size_of_block bf
  have t4 : w106.cell? ⟨gT, 4, none⟩ = some (.int .i64 1) := (hT.cellAt 4 (by decide)).trans rfl
  have t5 : w106.cell? ⟨gT, 5, none⟩ = some (.int .i64 0) := (hT.cellAt 5 (by decide)).trans rfl
  have t6 : w106.cell? ⟨gT, 6, none⟩ = some (.int .i64 (-20)) := (hT.cellAt 6 (by decide)).trans rfl
  have t7 : w106.cell? ⟨gT, 7, none⟩ = some (.int .i64 1) := (hT.cellAt 7 (by decide)).trans rfl
  have zT := (hT.lt gT rfl).2
  go_wp2_with fail
  clear cbf0 cbf1 cbf2 cbf3 cbf4 zbf t4 t5 t6 t7 zT
  refine (rclash_c exC _ uc pc w106 hk (Ints.of_own h4 (by omega))).mono ?_
  rintro e w107 ⟨rfl, hF⟩
  have hBF := below_then hB hF
  rw [HCL.out]
  clear hF hB
  go_wp2_with fail
  go_ret
  exact ⟨rfl, hBF⟩
end Go.Proofs.YtnedcclmfokdnaaGreat
namespace Go.Proofs.YtnedcclmfokdnaaGreat
open Go Go.RowKit Go.Shelf
attribute [local go_sem] Oper.semAt_some Rel RelAt RelUpon
def oneB (m n : Nat) : Bool := decide (n ≤ m) || (decide (20 < n) && decide (n ≤ 30))
def fewB3 (n1 n2 n3 : Nat) : Bool := oneB 6 n1 && oneB 6 n2 && oneB 5 n3
set_option maxRecDepth 100000 in
set_option maxHeartbeats 8000000 in
theorem lfew_c (r p : Int) (A1 A2 A3 : Option Addr) (n1 c1 n2 c2 n3 c3 : Nat) (w : World) :
    Calls Tryz.prog 16 #[.agg #[.int .i64 r, .int .i64 p, .slice A1 n1 c1, .slice A2 n2 c2, .slice A3 n3 c3]] w fun e w' => e = .returned (.bool (fewB3 n1 n2 n3)) ∧ Below w.heap.size w w' := by
  go_enter Tryz.func16, Tryz.ntmps16
  go_wp2
  all_goals (go_ret; refine ⟨ret_bool ?_, below_alloc _ _⟩)
  all_goals (rw [Bool.eq_iff_iff]; simp only [fewB3, oneB, Bool.and_eq_true, Bool.or_eq_true, decide_eq_true_eq, Bool.false_eq_true, false_iff, true_iff]; omega)
theorem lfew_len {n1 n2 n3 : Nat} (h : fewB3 n1 n2 n3 = true) : n1 ≤ 30 ∧ n2 ≤ 30 ∧ n3 ≤ 30 := by
  unfold fewB3 oneB at h
  simp only [Bool.and_eq_true, Bool.or_eq_true, decide_eq_true_eq] at h
  omega
theorem lfew_big {n1 n2 n3 : Nat} (h : 30 < n1 ∨ 30 < n2 ∨ 30 < n3) : fewB3 n1 n2 n3 = false := by
  cases hf : fewB3 n1 n2 n3 with
  | false => rfl
  | true => have := lfew_len hf; omega
set_option maxRecDepth 100000 in
theorem lmarks_c (k : Kl) (A1 A2 A3 : Option Addr) (c1 c2 c3 : Nat) (w : World) (hR : Right k) :
    Calls Tryz.prog 61 #[.agg #[.int .i64 k.room, .int .i64 k.per, .slice A1 k.ls.length c1, .slice A2 k.ds.length c2, .slice A3 k.ws.length c3]] w fun e w' => e = .returned (.int .i64 (marksN k)) ∧ Below w.heap.size w w' := by
  have h1 := hR.ls
  have h2 := hR.ds
  have HE := Lib.hid (show marksN k = (k.ls.length : Int) + k.ds.length + 1 by unfold marksN; omega)
  go_enter Tryz.func61, Tryz.ntmps61
  go_wp2
  go_ret
  exact ⟨by rw [HE.out]; rfl, below_alloc _ _⟩
end Go.Proofs.YtnedcclmfokdnaaGreat
namespace Go.Proofs.YtnedcclmfokdnaaGreat
open Go Go.RowKit Go.Shelf
theorem most_rng {k : Kl} {fr to : Int} (h : (mostE k fr to).2 = 0) : checkI k = 0 ∧ marksI k fr to = 0 ∧ (0 ≤ fr ∧ fr < marksN k) ∧ (0 ≤ to ∧ to < marksN k) ∧ Can (tiesL k) ∧ (mostE k fr to).1 = dst (tiesL k) fr to := by
  unfold mostE at h ⊢
  split at h
  · rename_i h1; exact absurd h h1
  · rename_i h1
    have hm : marksI k fr to = 0 := Decidable.not_not.1 h1
    rw [if_neg h1]
    split at h
    · rename_i h2
      have hm2 := hm
      unfold marksI at hm2
      split at hm2
      · rename_i h3; exact absurd hm2 h3
      · rename_i h3
        split at hm2
        · rename_i h4
          rw [if_pos h2]
          unfold marksN
          exact ⟨Decidable.not_not.1 h3, hm, ⟨h4.1.1, by omega⟩, ⟨h4.2.1, by omega⟩, canB_true.1 h2, rfl⟩
        · omega
    · simp at h
theorem most_zero {k : Kl} {fr to : Int} (h : (mostE k fr to).2 ≠ 0) : (mostE k fr to).1 = 0 := by
  unfold mostE at h ⊢
  split
  · rfl
  · rename_i h1
    rw [if_neg h1] at h
    split
    · rename_i h2; rw [if_pos h2] at h; exact absurd rfl h
    · rfl
theorem Above_f (k : Kl) (v : Value) (fr to : Int) (w : World) (hv : Kiln w v k) :
    Calls Tryz.prog 30 #[v, .int .i64 fr, .int .i64 to] w fun e w' => ∃ A0 c0 A1 c1 A2 c2 pp tl td, e = .returned (.tuple #[.agg #[.int .i64 (mostE k fr to).1, .slice A0 (pp : List Int).length c0, .slice A1 (tl : List Int).length c1, .slice A2 (td : List Int).length c2], .int .i64 (mostE k fr to).2]) ∧
      (w'.ownsRow w.heap.size 3 1 (.slice A0 pp.length c0) pp.length (pp.map (Value.int .i64)) ∧ w'.ownsRow w.heap.size 3 1 (.slice A1 tl.length c1) tl.length (tl.map (Value.int .i64)) ∧ w'.ownsRow w.heap.size 3 1 (.slice A2 td.length c2) td.length (td.map (Value.int .i64)) ∧
      ((mostE k fr to).2 = 0 → AboveIs k fr to (mostE k fr to).1 pp tl td) ∧ ((mostE k fr to).2 ≠ 0 → pp = [] ∧ tl = [] ∧ td = [])) ∧ Below w.heap.size w w' := by
  refine (Above_c k v fr to w hv).mono ?_
  rintro e w' ⟨m, pv, t1, t2, pp, tl, td, rfl, ⟨hO, hT⟩, ⟨h1, h2⟩, hb⟩
  obtain ⟨A0, c0, rfl⟩ := own_form hO
  obtain ⟨a, b, he, hta, htb⟩ := hT
  obtain ⟨rfl, rfl⟩ : t1 = a ∧ t2 = b := by simpa using he
  obtain ⟨A1, c1, rfl⟩ := own_form hta
  obtain ⟨A2, c2, rfl⟩ := own_form htb
  have hm : m = (mostE k fr to).1 := by
    by_cases h0 : (mostE k fr to).2 = 0
    · obtain ⟨r1, r2, r3, r4, r5, r6⟩ := most_rng h0
      rw [r6]; exact above_most r1 r3 r4 (h1 h0)
    · rw [most_zero h0]; exact (h2 h0).1
  subst hm
  exact ⟨A0, c0, A1, c1, A2, c2, pp, tl, td, rfl, ⟨hO, hta, htb, h1, fun h => (h2 h).2⟩, hb⟩
theorem mark_mod {k : Kl} (a : Nat) (ha : a ≤ 4294967295) : ((IntKind.i64.wrap (a : Int)).tmod (marksN k) = ((a % mN k : Nat) : Int)) ∧ (0 ≤ ((a % mN k : Nat) : Int) ∧ ((a % mN k : Nat) : Int) < marksN k) ∧ marksN k ≠ 0 := by
  have hm := mN_eq k
  have hp : 0 < mN k := by unfold mN; omega
  have hl := Nat.mod_lt a hp
  rw [hm]
  refine ⟨?_, ⟨by omega, by omega⟩, by omega⟩
  rw [show IntKind.i64.wrap (a : Int) = (a : Int) by rw [IntKind.wrap_i64]; omega, Int.natCast_emod]; exact Int.tmod_eq_emod_of_nonneg (by omega)
theorem kiln_arg {W : World} {rm pr : Int} {A1 A2 A3 : Option Addr} {n1 c1 n2 c2 n3 c3 : Nat} (h : (∃ k : Kl, k.room = rm ∧ k.per = pr ∧ k.ls.length = n1 ∧ k.ds.length = n2 ∧ k.ws.length = n3 ∧ Kiln W (.agg #[.int .i64 rm, .int .i64 pr, .slice A1 n1 c1, .slice A2 n2 c2, .slice A3 n3 c3]) k) ∨ 140737488355328 < n1 ∨ 140737488355328 < n2 ∨ 140737488355328 < n3) :
    fewB3 n1 n2 n3 = false ∨ (fewB3 n1 n2 n3 = true ∧ ∃ k : Kl, k.room = rm ∧ k.per = pr ∧ k.ls.length = n1 ∧ k.ds.length = n2 ∧ k.ws.length = n3 ∧ Kiln W (.agg #[.int .i64 rm, .int .i64 pr, .slice A1 n1 c1, .slice A2 n2 c2, .slice A3 n3 c3]) k) := by
  cases hf : fewB3 n1 n2 n3 with
  | false => exact .inl rfl
  | true =>
    have := lfew_len hf
    rcases h with h | h
    · exact .inr ⟨rfl, h⟩
    · omega
end Go.Proofs.YtnedcclmfokdnaaGreat
