/- ShaftShares: the walk (written by tools/genssharesl.py). -/
import Derived.Test.YtnedcclmfokdnaaGreatJ27
import Derived.Test.YtnedcclmfokdnaaGreatJ25
import Derived.Test.YtnedcclmfokdnaaGreatZWR
import Derived.Test.YtnedcclmfokdnaaGreatZSLawME
import Derived.Test.YtnedcclmfokdnaaGreatZSLawNE
import Derived.Test.YtnedcclmfokdnaaGreatZSLawTE
import Derived.Test.YtnedcclmfokdnaaGreatZSLawKE
namespace Go.Proofs.YtnedcclmfokdnaaGreat
open Go Go.RowKit Go.Shelf
attribute [local go_sem] Oper.semAt_some Rel RelAt RelUpon

theorem lhas_b (v : Value) (l : List Int) (n : Int) (b : Bool) (w : World) (hv : Ints w w.heap.size v l) (hb : decide (n ∈ l) = b) :
    Calls Tryz.prog 67 #[v, .int .i64 n] w fun e w' => e = .returned (.bool b) ∧ Below w.heap.size w w' := by
  refine (lhas_c v l n w hv).mono ?_
  rintro e w' ⟨rfl, rfl⟩
  exact ⟨by rw [hb], Below.refl _ _⟩
/-- The least and the greatest that the draw j takes of the load i. -/
noncomputable def ltZ (k : Kl) (j : Nat) (i : Nat) : Int := leastZ (tiesL k) (loadP i) (drawP k j)
noncomputable def mtZ (k : Kl) (j : Nat) (i : Nat) : Int := mostZ (tiesL k) (loadP i) (drawP k j)
theorem shares_rng {k : Kl} (hR : Right k) (hc : Can (tiesL k)) {i j : Nat} (hi : i < k.ls.length) (hj : j < k.ds.length) : (0 ≤ ltZ k j i ∧ ltZ k j i ≤ 1048576) ∧ 0 ≤ mtZ k j i ∧ mtZ k j i ≤ 1048576 := by
  obtain ⟨g, hk⟩ := hc
  have h1 := took_between hR hk hi hj
  have h2 := (mostZ_is (tiesL k) (loadP i) (drawP k j)).1
  have h3 : 0 ≤ ltZ k j i := by unfold ltZ leastZ; omega
  unfold ltZ mtZ at *
  omega
theorem sum_rng {f : Nat → Int} {n : Nat} (h : ∀ i, i < n → 0 ≤ f i ∧ f i ≤ 1048576) : ∀ m, m ≤ n → 0 ≤ sumTo f m ∧ sumTo f m ≤ m * 1048576
  | 0, _ => by simp [sumTo]
  | m + 1, hm => by
    have h1 := sum_rng h m (by omega)
    have h2 := h m (by omega)
    simp only [sumTo]
    omega
/-- The first and the last load of which surely something is taken, among the first so many. -/
def FL (f : Nat → Int) (i : Nat) (a b : Int) : Prop := (a = -1 ∧ b = -1) ∨ ∃ x y : Nat, a = x ∧ b = y ∧ x ≤ y ∧ y < i ∧ 0 < f x ∧ 0 < f y
theorem FL.same {f : Nat → Int} {i : Nat} {a b : Int} (h : FL f i a b) : FL f (i + 1) a b := by
  rcases h with h | ⟨x, y, h1, h2, h3, h4, h5⟩
  · exact .inl h
  · exact .inr ⟨x, y, h1, h2, h3, by omega, h5⟩
theorem FL.begin {f : Nat → Int} {i : Nat} (h : 0 < f i) : FL f (i + 1) i i := .inr ⟨i, i, rfl, rfl, Nat.le_refl _, by omega, h, h⟩
theorem FL.more {f : Nat → Int} {i : Nat} {a b : Int} (h : FL f i a b) (ha : ¬ a < 0) (hi : 0 < f i) : FL f (i + 1) a i := by
  rcases h with ⟨h, _⟩ | ⟨x, y, h1, h2, h3, h4, h5, h6⟩
  · omega
  · exact .inr ⟨x, i, h1, rfl, by omega, by omega, h5, hi⟩
theorem FL.rng {f : Nat → Int} {i : Nat} {a b : Int} (h : FL f i a b) : -1 ≤ a ∧ a ≤ b ∧ b < i := by
  rcases h with h | ⟨x, y, h1, h2, h3, h4, h5, h6⟩ <;> omega
theorem FL.between {f : Nat → Int} {i : Nat} {a b m : Int} (h : FL f i a b) (h1 : a ≤ m) (h2 : m < b) : ∃ x y z : Nat, m = z ∧ x ≤ z ∧ z < y ∧ y < i ∧ 0 < f x ∧ 0 < f y := by
  rcases h with h | ⟨x, y, e1, e2, h3, h4, h5, h6⟩
  · omega
  · exact ⟨x, y, m.toNat, by omega, by omega, by omega, h4, h5, h6⟩
set_option maxRecDepth 100000 in
set_option maxHeartbeats 8000000 in
theorem SSh_no (rm pr : Int) (A1 : Option Addr) (n1 c1 : Nat) (A2 : Option Addr) (n2 c2 : Nat) (A3 : Option Addr) (n3 c3 : Nat) (b : Nat) (w : World) (h : 4 < n1 ∨ 4 < n2 ∨ 4 < n3 ∨ n2 = 0) : Calls Tryz.prog 14 #[.agg #[.int .i64 rm, .int .i64 pr, .slice A1 n1 c1, .slice A2 n2 c2, .slice A3 n3 c3], .int .u8 b] w fun e w' => e = .returned (.bool true) ∧ Below w.heap.size w w' := by
  have bk := heap_alloc_new w (.cells #[.int .i64 rm, .int .i64 pr, .slice A1 n1 c1, .slice A2 n2 c2, .slice A3 n3 c3] 26)
  have hB := below_alloc w (.cells #[.int .i64 rm, .int .i64 pr, .slice A1 n1 c1, .slice A2 n2 c2, .slice A3 n3 c3] 26)
  have cbk2 := Joins.cell_of_block bk 2
  have cbk3 := Joins.cell_of_block bk 3
  have cbk4 := Joins.cell_of_block bk 4
  have zbk := size_of_block bk
  rcases h with h | h | h | rfl
  all_goals (go_enter Tryz.func14, Tryz.ntmps14)
  all_goals (go_wp2_with fail)
  all_goals (try (exfalso; omega))
  all_goals (refine (sanity_c _).mono ?_; rintro e w9 ⟨rfl, hF⟩; go_wp2_with fail; go_ret; exact ⟨rfl, below_then hB hF⟩)
set_option maxRecDepth 100000 in
set_option maxHeartbeats 8000000 in
theorem SSh_err (k : Kl) (A1 A2 A3 : Option Addr) (c1 c2 c3 : Nat) (b : Nat) (w : World) (hk : Kiln w (.agg #[.int .i64 k.room, .int .i64 k.per, .slice A1 k.ls.length c1, .slice A2 k.ds.length c2, .slice A3 k.ws.length c3]) k) (hb : b ≤ 255) (l1 : k.ls.length ≤ 4) (l2 : k.ds.length ≤ 4) (l3 : k.ws.length ≤ 4) (l4 : 0 < k.ds.length) (j : Nat) (y : Rec) (hj : j = b % k.ds.length) (hy : k.ds[j]? = some y) (h0 : (weightE k y.id).2 ≠ 0) (hse : sourceE k y.id = (weightE k y.id).2) : Calls Tryz.prog 14 #[.agg #[.int .i64 k.room, .int .i64 k.per, .slice A1 k.ls.length c1, .slice A2 k.ds.length c2, .slice A3 k.ws.length c3], .int .u8 b] w fun e w' => e = .returned (.bool true) ∧ Below w.heap.size w w' := by
  have yW := fun W h => Weight_c k (.agg #[.int .i64 k.room, .int .i64 k.per, .slice A1 k.ls.length c1, .slice A2 k.ds.length c2, .slice A3 k.ws.length c3]) y.id W h
  have yS := fun W h => Sources_c k (.agg #[.int .i64 k.room, .int .i64 k.per, .slice A1 k.ls.length c1, .slice A2 k.ds.length c2, .slice A3 k.ws.length c3]) y.id W h
  rw [hse] at yS
  obtain ⟨WA, h9⟩ : ∃ x, x = (weightE k y.id).1.1 := ⟨_, rfl⟩
  rw [← h9] at yW
  clear h9
  obtain ⟨WB, h9⟩ : ∃ x, x = (weightE k y.id).1.2 := ⟨_, rfl⟩
  rw [← h9] at yW
  clear h9
  obtain ⟨EE, h9⟩ : ∃ x, x = (weightE k y.id).2 := ⟨_, rfl⟩
  rw [← h9] at yW yS h0
  clear h9
  obtain ⟨SS, h9⟩ : ∃ x, x = sourceS k y.id := ⟨_, rfl⟩
  rw [← h9] at yS
  clear h9
  obtain ⟨SX, h9⟩ : ∃ x, x = sourceM k y.id := ⟨_, rfl⟩
  rw [← h9] at yS
  clear h9
  have d1 : (EE != 0) = true := by simpa using h0
  have hee : (EE == EE) = true := by simp
  have HWT := Lib.hid yW
  have HSO := Lib.hid yS
  clear yW yS h0 hse
  have HK := Lib.hid hk
  have hjl := (List.getElem?_eq_some_iff.1 hy).1
  have HY := Lib.hid hy
  have hrm : ((b : Int)).tmod (k.ds.length : Int) = (j : Int) := by rw [Int.tmod_eq_emod_of_nonneg (by omega), hj]; simp
  have hwb : IntKind.i64.wrap (b : Int) = b := by rw [IntKind.wrap_i64]; omega
  have h0n : ((k.ds.length : Int) == 0) = false := by rw [beq_eq_false_iff_ne]; omega
  have hpn : ¬ k.ds = [] := by intro h; rw [h] at l4; simp at l4
  clear hk hy hj
  go_enter Tryz.func14, Tryz.ntmps14
  have bk := heap_alloc_new w (.cells #[.int .i64 k.room, .int .i64 k.per, .slice A1 k.ls.length c1, .slice A2 k.ds.length c2, .slice A3 k.ws.length c3] 26)
  have hB := below_alloc w (.cells #[.int .i64 k.room, .int .i64 k.per, .slice A1 k.ls.length c1, .slice A2 k.ds.length c2, .slice A3 k.ws.length c3] 26)
  have cbk0 := Joins.cell_of_block bk 0
  have cbk1 := Joins.cell_of_block bk 1
  have cbk2 := Joins.cell_of_block bk 2
  have cbk3 := Joins.cell_of_block bk 3
  have cbk4 := Joins.cell_of_block bk 4
  have zbk := size_of_block bk
  go_wp2_with fail
  all_goals (try (exfalso; omega))
  clear cbk0 cbk1 cbk2 cbk3 cbk4 zbk
  generalize w.alloc _ = w1 at bk hB ⊢
  have hkW := HK.out.later hB
  obtain ⟨al, ad, aw, e9, hl, hd, _⟩ := hkW
  obtain ⟨rfl, rfl, rfl⟩ : .slice A1 k.ls.length c1 = al ∧ .slice A2 k.ds.length c2 = ad ∧ .slice A3 k.ws.length c3 = aw := by simpa using e9
  obtain ⟨A', c', e8, _, hln, hat⟩ := hd.open_
  obtain ⟨rfl, rfl⟩ : A2 = A' ∧ c2 = c' := by simpa using e8
  obtain ⟨db, doo, y', rfl, hdb, hy', y0, y1, y2, y3⟩ := hat j hjl
  obtain rfl : y = y' := by rw [HY.out] at hy'; simpa using hy'
  clear hat hl hd e8 e9 hln hy'
  have szbk := size_of_block bk
  have szB := hB.size
  refine wp_region_looseM [2] [0, 1, 3, 4, 5, 6, 7, 8, 9] .done [10] [] [11] [some 5] [.cells #[.int .i64 0, .int .i64 0, .int .i64 0, .int .i64 0] 104] (by kernel_rfl) (by kernel_rfl) (by intro c a d v w h; cases d <;> exact h) (by intro c a d v w h; cases d <;> exact h) rfl (by intro r i hri; match r, hri with | 0, hri => cases hri; exact ⟨_, _, rfl, rfl, rfl, rfl, fun a u => by simp [execOp, go_sem, ptrV]⟩) ?_
  simp only [pick, List.filterMap_cons, List.filterMap_nil, List.getElem?_toArray, List.getElem?_cons_succ, List.getElem?_cons_zero]
  refine wpPure_step (.int .u8 b) rfl (fun u => by first | rfl | kernel_rfl | simp [execOp, go_sem]) ?_
  intro u2 hu2
  replace bk := (hu2.block _ (size_of_block bk)).trans bk
  replace y0 := (hu2.cell (p := ⟨db, doo + j * 4, none⟩) hdb).trans y0
  replace y1 := (hu2.cell (p := ⟨db, doo + j * 4 + 1, none⟩) hdb).trans y1
  replace y2 := (hu2.cell (p := ⟨db, doo + j * 4 + 2, none⟩) hdb).trans y2
  replace y3 := (hu2.cell (p := ⟨db, doo + j * 4 + 3, none⟩) hdb).trans y3
  replace hdb := Nat.lt_of_lt_of_le hdb hu2.size
  replace hB := below_then hB hu2
  have cbk0 := Joins.cell_of_block bk 0
  have cbk1 := Joins.cell_of_block bk 1
  have cbk2 := Joins.cell_of_block bk 2
  have cbk3 := Joins.cell_of_block bk 3
  have cbk4 := Joins.cell_of_block bk 4
  have zbk := size_of_block bk
  have hcg : ∀ (g : Gr u2) b o, b < u2.heap.size → g.val.cell? ⟨b, o, none⟩ = u2.cell? ⟨b, o, none⟩ := fun g b o h => (bcell g.b).1 b o h
  refine wpRel_step (fun K hK => ?_); go_simp; refine hK _ ?_; clear hK K
  refine wpRel_step (fun K hK => ?_); go_simp; refine hK _ ?_; clear hK K
  refine wpRel_val (.int .i64 b) (by kernel_rfl) (fun g => by simp [execOp, go_sem, hwb]) ?_
  refine wpRel_step (fun K hK => ?_); go_simp; refine hK _ ?_; clear hK K
  refine wpRel_step (fun K hK => ?_); go_simp; refine hK _ ?_; clear hK K
  refine wpRel_step (fun K hK => ?_); go_simp; refine hK _ ?_; clear hK K
  refine wpRel_val (.int .i64 j) (by kernel_rfl) (fun g => by simp [execOp, go_sem, hrm, hpn]) ?_
  refine wpRel_step (fun K hK => ?_); go_simp; refine hK _ ?_; clear hK K
  refine wpRel_step (fun K hK => ?_); go_simp; refine hK _ ?_; clear hK K
  refine wpRel_nil fun V2_0 hb2 => ?_
  clear hcg cbk0 cbk1 cbk2 cbk3 cbk4 zbk
  replace bk := (hb2.block _ (size_of_block bk)).trans bk
  replace y0 := (hb2.cell (p := ⟨db, doo + j * 4, none⟩) hdb).trans y0
  replace y1 := (hb2.cell (p := ⟨db, doo + j * 4 + 1, none⟩) hdb).trans y1
  replace y2 := (hb2.cell (p := ⟨db, doo + j * 4 + 2, none⟩) hdb).trans y2
  replace y3 := (hb2.cell (p := ⟨db, doo + j * 4 + 3, none⟩) hdb).trans y3
  replace hdb := Nat.lt_of_lt_of_le hdb hb2.size
  replace hB := below_then hB hb2
  clear hb2 hu2
  show wpPure _ _ _ _
  intro ks hks hall hH
  obtain ⟨k1, rfl⟩ : ∃ k1, ks = [some k1] := by
    match ks, hks with
    | [none], _ => exact absurd rfl (hall 0)
    | [some k1], _ => exact ⟨k1, rfl⟩
  obtain ⟨o1, ge1, lt1⟩ := hH.obj 0 k1 rfl
  rw [show ([Obj.cells #[.int .i64 0, .int .i64 0, .int .i64 0, .int .i64 0] 104])[0]? = some (.cells #[.int .i64 0, .int .i64 0, .int .i64 0, .int .i64 0] 104) from rfl] at o1
  clear hH hall hks
  show wpList _ _ _ _ _ _
  simp only [deco, ptrV]
  refine wpList_store_rowTo rfl 104 _ _ rfl rfl k1 #[.int .i64 y.id, .int .i64 y.hour, .int .i64 y.lo, .int .i64 y.hi] rfl rfl 104 _ o1 (by kernel_rfl) (by first | rfl | kernel_rfl) (by first | rfl | kernel_rfl) ?_
  have bd := setRow_heap V2_0 k1 _ #[.int .i64 y.id, .int .i64 y.hour, .int .i64 y.lo, .int .i64 y.hi] _ _ o1
  have HS := below_setRow (Below.refl k1 V2_0) (Nat.le_refl _) #[.int .i64 y.id, .int .i64 y.hour, .int .i64 y.lo, .int .i64 y.hi]
  replace bk := (setRow_other _ _ _ #[.int .i64 y.id, .int .i64 y.hour, .int .i64 y.lo, .int .i64 y.hi] (show _ ≠ k1 by omega)).trans bk
  replace hB := below_setRow hB (show w.heap.size ≤ k1 by omega) #[.int .i64 y.id, .int .i64 y.hour, .int .i64 y.lo, .int .i64 y.hi]
  clear HS o1 ge1 lt1 szbk szB
  generalize V2_0.setRow k1 #[.int .i64 y.id, .int .i64 y.hour, .int .i64 y.lo, .int .i64 y.hi] = w3 at bd hB bk ⊢
  clear y0 y1 y2 y3 hdb
  have cbk0 := Joins.cell_of_block bk 0
  have cbk1 := Joins.cell_of_block bk 1
  have cbk2 := Joins.cell_of_block bk 2
  have cbk3 := Joins.cell_of_block bk 3
  have cbk4 := Joins.cell_of_block bk 4
  have zbk := size_of_block bk
  have cbd0 := Joins.cell_of_block bd 0
  have zbd := size_of_block bd
  go_wp2_with fail
  refine (HWT.out w3 (HK.out.later hB)).mono ?_
  rintro e w4 ⟨rfl, hF⟩
  clear cbk0 cbk1 cbk2 cbk3 cbk4 zbk cbd0 zbd
  replace bk := (hF.block _ (size_of_block bk)).trans bk
  replace bd := (hF.block _ (size_of_block bd)).trans bd
  replace hB := below_then hB hF
  clear hF
  have b6 := heap_alloc_new w4 (.cells #[.int .i64 WA, .int .i64 WB] 63)
  have HB := below_alloc w4 (.cells #[.int .i64 WA, .int .i64 WB] 63)
  have cbk0 := Joins.cell_of_block ((HB.block _ (size_of_block bk)).trans bk) 0
  have cbk1 := Joins.cell_of_block ((HB.block _ (size_of_block bk)).trans bk) 1
  have cbk2 := Joins.cell_of_block ((HB.block _ (size_of_block bk)).trans bk) 2
  have cbk3 := Joins.cell_of_block ((HB.block _ (size_of_block bk)).trans bk) 3
  have cbk4 := Joins.cell_of_block ((HB.block _ (size_of_block bk)).trans bk) 4
  have zbk := size_of_block bk
  have cbd0 := Joins.cell_of_block ((HB.block _ (size_of_block bd)).trans bd) 0
  have zbd := size_of_block bd
  go_wp2_with fail
  generalize (w4.alloc (.cells #[.int .i64 WA, .int .i64 WB] 63)) = w5 at b6 HB cbk0 cbk1 cbk2 cbk3 cbk4 cbd0 ⊢
  replace bk := (HB.block _ (size_of_block bk)).trans bk
  replace bd := (HB.block _ (size_of_block bd)).trans bd
  replace hB := below_then hB HB
  clear HB
  refine (HSO.out w5 (HK.out.later hB)).mono ?_
  rintro e w6 ⟨u1, u2, rfl, ⟨hO1, hO2⟩, hF⟩
  clear cbk0 cbk1 cbk2 cbk3 cbk4 zbk cbd0 zbd
  replace bk := (hF.block _ (size_of_block bk)).trans bk
  replace bd := (hF.block _ (size_of_block bd)).trans bd
  replace b6 := (hF.block _ (size_of_block b6)).trans b6
  replace hB := below_then hB hF
  clear hF
  obtain ⟨P1, p1, rfl⟩ := own_form hO1
  obtain ⟨P2, p2, rfl⟩ := own_form hO2
  go_wp2_with fail
  refine (sanity_c _).mono ?_
  rintro e w7 ⟨rfl, hF⟩
  replace bk := (hF.block _ (size_of_block bk)).trans bk
  replace bd := (hF.block _ (size_of_block bd)).trans bd
  replace b6 := (hF.block _ (size_of_block b6)).trans b6
  replace hO1 := own_later hO1 hF
  replace hO2 := own_later hO2 hF
  replace hB := below_then hB hF
  clear hF
  go_wp2_with fail
  go_ret
  exact ⟨rfl, hB⟩
set_option linter.unusedSimpArgs false in
set_option maxRecDepth 100000 in
set_option maxHeartbeats 16000000 in
theorem SSh_ok (k : Kl) (A1 A2 A3 : Option Addr) (c1 c2 c3 : Nat) (b : Nat) (w : World) (hk : Kiln w (.agg #[.int .i64 k.room, .int .i64 k.per, .slice A1 k.ls.length c1, .slice A2 k.ds.length c2, .slice A3 k.ws.length c3]) k) (hb : b ≤ 255) (l1 : k.ls.length ≤ 4) (l2 : k.ds.length ≤ 4) (l3 : k.ws.length ≤ 4) (l4 : 0 < k.ds.length) (j : Nat) (y : Rec) (hj : j = b % k.ds.length) (hy : k.ds[j]? = some y) (hc : checkI k = 0) (hcan : canB (tiesL k) = true) : Calls Tryz.prog 14 #[.agg #[.int .i64 k.room, .int .i64 k.per, .slice A1 k.ls.length c1, .slice A2 k.ds.length c2, .slice A3 k.ws.length c3], .int .u8 b] w fun e w' => e = .returned (.bool true) ∧ Below w.heap.size w w' := by
  have hR := right_of_check hc
  have hca := canB_true.1 hcan
  have hjl0 := (List.getElem?_eq_some_iff.1 hy).1
  have yW := fun W h => Weight_c k (.agg #[.int .i64 k.room, .int .i64 k.per, .slice A1 k.ls.length c1, .slice A2 k.ds.length c2, .slice A3 k.ws.length c3]) y.id W h
  rw [weight_draw hc hy, betw_ok hca] at yW
  have yS := fun W h => Sources_c k (.agg #[.int .i64 k.room, .int .i64 k.per, .slice A1 k.ls.length c1, .slice A2 k.ds.length c2, .slice A3 k.ws.length c3]) y.id W h
  rw [source_ok hc hy, if_pos hcan] at yS
  have s1 := sum_least hR hca hjl0
  have s2 := sum_most hR hca hjl0
  obtain ⟨WA, h9⟩ : ∃ x, x = -(dst (tiesL k) (markI k ((j : Int) + 1)) (markI k j)) := ⟨_, rfl⟩
  rw [← h9] at yW s2
  clear h9
  obtain ⟨WB, h9⟩ : ∃ x, x = dst (tiesL k) (markI k j) (markI k ((j : Int) + 1)) := ⟨_, rfl⟩
  rw [← h9] at yW s1
  clear h9
  have HTK := Lib.hid (fun (i : Nat) (x : Rec) (hx : k.ls[i]? = some x) v W h => (show Calls Tryz.prog 45 #[v, .int .i64 y.id, .int .i64 x.id] W (fun e w' => e = .returned (.tuple #[.agg #[.int .i64 (ltZ k j i), .int .i64 (mtZ k j i)], .int .i64 0]) ∧ Below W.heap.size W w') by have h9 := Took_c k v y.id x.id W h; rw [took_ok hc hca hx hy] at h9; exact h9))
  have HW2 := Lib.hid (fun (i : Nat) (x : Rec) (hx : k.ls[i]? = some x) v W h => (show Calls Tryz.prog 35 #[v, .int .i64 x.id] W (fun e w' => e = .returned (.tuple #[.agg #[.int .i64 (-(dst (tiesL k) ((i : Int) + 1) i)), .int .i64 (dst (tiesL k) i ((i : Int) + 1))], .int .i64 0]) ∧ Below W.heap.size W w') by have h9 := Weight_c k v x.id W h; rw [weight_load hc hx, betw_ok hca] at h9; exact h9))
  have HS1 := Lib.hid (fun (i : Nat) (x : Rec) (hx : k.ls[i]? = some x) => (show decide (x.id ∈ sourceS k y.id) = decide (0 < ltZ k j i) from decide_eq_decide.2 (sure_iff hc hca hx hy)))
  have HS2 := Lib.hid (fun (i : Nat) (x : Rec) (hx : k.ls[i]? = some x) => (show decide (x.id ∈ sourceM k y.id) = decide (0 < mtZ k j i) from decide_eq_decide.2 (some_iff hc hca hx hy)))
  have HLT := Lib.hid (fun (i : Nat) (x : Rec) (hx : k.ls[i]? = some x) (h : y.hour < x.hour) => (show mtZ k j i = 0 from none_later hR hca hx hy h))
  have HBT := Lib.hid (fun (p i q : Nat) (h1 : p ≤ i) (h2 : i < q) (h3 : q < k.ls.length) (h4 : 0 < ltZ k j p) (h5 : 0 < ltZ k j q) (h6 : 0 < -(dst (tiesL k) ((i : Int) + 1) i)) => (show 0 < ltZ k j i by rcases Nat.lt_or_ge p i with h | h; exact sure_between hR hca h h2 h3 hjl0 h4 h5 h6; obtain rfl : p = i := (by omega); exact h4))
  have HRG := Lib.hid (fun i (hi : i < k.ls.length) => shares_rng hR hca hi hjl0)
  have HSL := Lib.hid (fun m (hm : m ≤ k.ls.length) => sum_rng (f := ltZ k j) (fun i hi => (HRG.out i hi).1) m hm)
  have HSM := Lib.hid (fun m (hm : m ≤ k.ls.length) => sum_rng (f := mtZ k j) (fun i hi => (HRG.out i hi).2) m hm)
  have HE1 := Lib.hid (show sumTo (ltZ k j) k.ls.length ≤ WB from s1)
  have HE2 := Lib.hid (show WA ≤ sumTo (mtZ k j) k.ls.length from s2)
  have hsl : (sourceS k y.id).length ≤ 4 ∧ (sourceM k y.id).length ≤ 4 := by
      constructor
      · unfold sourceS; split
        · exact Nat.le_trans (sureL_len _ _ _ _ _) l1
        · simp
      · unfold sourceM; split
        · exact Nat.le_trans (someL_len _ _ _ _ _) l1
        · simp
  obtain ⟨SS, h9⟩ : ∃ x, x = sourceS k y.id := ⟨_, rfl⟩
  rw [← h9] at yS HS1 hsl
  clear h9
  obtain ⟨SX, h9⟩ : ∃ x, x = sourceM k y.id := ⟨_, rfl⟩
  rw [← h9] at yS HS2 hsl
  clear h9
  have HZL := Lib.hid (show sumTo (ltZ k j) 0 = 0 from rfl)
  have HZM := Lib.hid (show sumTo (mtZ k j) 0 = 0 from rfl)
  have HNL := Lib.hid (fun i => (show sumTo (ltZ k j) (i + 1) = sumTo (ltZ k j) i + ltZ k j i from rfl))
  have HNM := Lib.hid (fun i => (show sumTo (mtZ k j) (i + 1) = sumTo (mtZ k j) i + mtZ k j i from rfl))
  obtain ⟨LT, hLT⟩ : ∃ f, f = ltZ k j := ⟨_, rfl⟩
  obtain ⟨MT, hMT⟩ : ∃ f, f = mtZ k j := ⟨_, rfl⟩
  rw [← hLT] at HTK HS1 HBT HRG HSL HE1 HZL HNL
  rw [← hMT] at HTK HS2 HLT HRG HSM HE2 HZM HNM
  have HWT := Lib.hid yW
  have HSO := Lib.hid yS
  clear yW yS s1 s2 hR hca hcan hc hLT hMT hjl0
  have HK := Lib.hid hk
  have hjl := (List.getElem?_eq_some_iff.1 hy).1
  have HY := Lib.hid hy
  have hrm : ((b : Int)).tmod (k.ds.length : Int) = (j : Int) := by rw [Int.tmod_eq_emod_of_nonneg (by omega), hj]; simp
  have hwb : IntKind.i64.wrap (b : Int) = b := by rw [IntKind.wrap_i64]; omega
  have h0n : ((k.ds.length : Int) == 0) = false := by rw [beq_eq_false_iff_ne]; omega
  have hpn : ¬ k.ds = [] := by intro h; rw [h] at l4; simp at l4
  clear hk hy hj
  go_enter Tryz.func14, Tryz.ntmps14
  have bk := heap_alloc_new w (.cells #[.int .i64 k.room, .int .i64 k.per, .slice A1 k.ls.length c1, .slice A2 k.ds.length c2, .slice A3 k.ws.length c3] 26)
  have hB := below_alloc w (.cells #[.int .i64 k.room, .int .i64 k.per, .slice A1 k.ls.length c1, .slice A2 k.ds.length c2, .slice A3 k.ws.length c3] 26)
  have cbk0 := Joins.cell_of_block bk 0
  have cbk1 := Joins.cell_of_block bk 1
  have cbk2 := Joins.cell_of_block bk 2
  have cbk3 := Joins.cell_of_block bk 3
  have cbk4 := Joins.cell_of_block bk 4
  have zbk := size_of_block bk
  go_wp2_with fail
  all_goals (try (exfalso; omega))
  clear cbk0 cbk1 cbk2 cbk3 cbk4 zbk
  generalize w.alloc _ = w1 at bk hB ⊢
  have hkW := HK.out.later hB
  obtain ⟨al, ad, aw, e9, hl, hd, _⟩ := hkW
  obtain ⟨rfl, rfl, rfl⟩ : .slice A1 k.ls.length c1 = al ∧ .slice A2 k.ds.length c2 = ad ∧ .slice A3 k.ws.length c3 = aw := by simpa using e9
  obtain ⟨A', c', e8, _, hln, hat⟩ := hd.open_
  obtain ⟨rfl, rfl⟩ : A2 = A' ∧ c2 = c' := by simpa using e8
  obtain ⟨db, doo, y', rfl, hdb, hy', y0, y1, y2, y3⟩ := hat j hjl
  obtain rfl : y = y' := by rw [HY.out] at hy'; simpa using hy'
  clear hat hl hd e8 e9 hln hy'
  have szbk := size_of_block bk
  have szB := hB.size
  refine wp_region_looseM [2] [0, 1, 3, 4, 5, 6, 7, 8, 9] .done [10] [] [11] [some 5] [.cells #[.int .i64 0, .int .i64 0, .int .i64 0, .int .i64 0] 104] (by kernel_rfl) (by kernel_rfl) (by intro c a d v w h; cases d <;> exact h) (by intro c a d v w h; cases d <;> exact h) rfl (by intro r i hri; match r, hri with | 0, hri => cases hri; exact ⟨_, _, rfl, rfl, rfl, rfl, fun a u => by simp [execOp, go_sem, ptrV]⟩) ?_
  simp only [pick, List.filterMap_cons, List.filterMap_nil, List.getElem?_toArray, List.getElem?_cons_succ, List.getElem?_cons_zero]
  refine wpPure_step (.int .u8 b) rfl (fun u => by first | rfl | kernel_rfl | simp [execOp, go_sem]) ?_
  intro u2 hu2
  replace bk := (hu2.block _ (size_of_block bk)).trans bk
  replace y0 := (hu2.cell (p := ⟨db, doo + j * 4, none⟩) hdb).trans y0
  replace y1 := (hu2.cell (p := ⟨db, doo + j * 4 + 1, none⟩) hdb).trans y1
  replace y2 := (hu2.cell (p := ⟨db, doo + j * 4 + 2, none⟩) hdb).trans y2
  replace y3 := (hu2.cell (p := ⟨db, doo + j * 4 + 3, none⟩) hdb).trans y3
  replace hdb := Nat.lt_of_lt_of_le hdb hu2.size
  replace hB := below_then hB hu2
  have cbk0 := Joins.cell_of_block bk 0
  have cbk1 := Joins.cell_of_block bk 1
  have cbk2 := Joins.cell_of_block bk 2
  have cbk3 := Joins.cell_of_block bk 3
  have cbk4 := Joins.cell_of_block bk 4
  have zbk := size_of_block bk
  have hcg : ∀ (g : Gr u2) b o, b < u2.heap.size → g.val.cell? ⟨b, o, none⟩ = u2.cell? ⟨b, o, none⟩ := fun g b o h => (bcell g.b).1 b o h
  refine wpRel_step (fun K hK => ?_); go_simp; refine hK _ ?_; clear hK K
  refine wpRel_step (fun K hK => ?_); go_simp; refine hK _ ?_; clear hK K
  refine wpRel_val (.int .i64 b) (by kernel_rfl) (fun g => by simp [execOp, go_sem, hwb]) ?_
  refine wpRel_step (fun K hK => ?_); go_simp; refine hK _ ?_; clear hK K
  refine wpRel_step (fun K hK => ?_); go_simp; refine hK _ ?_; clear hK K
  refine wpRel_step (fun K hK => ?_); go_simp; refine hK _ ?_; clear hK K
  refine wpRel_val (.int .i64 j) (by kernel_rfl) (fun g => by simp [execOp, go_sem, hrm, hpn]) ?_
  refine wpRel_step (fun K hK => ?_); go_simp; refine hK _ ?_; clear hK K
  refine wpRel_step (fun K hK => ?_); go_simp; refine hK _ ?_; clear hK K
  refine wpRel_nil fun V2_0 hb2 => ?_
  clear hcg cbk0 cbk1 cbk2 cbk3 cbk4 zbk
  replace bk := (hb2.block _ (size_of_block bk)).trans bk
  replace y0 := (hb2.cell (p := ⟨db, doo + j * 4, none⟩) hdb).trans y0
  replace y1 := (hb2.cell (p := ⟨db, doo + j * 4 + 1, none⟩) hdb).trans y1
  replace y2 := (hb2.cell (p := ⟨db, doo + j * 4 + 2, none⟩) hdb).trans y2
  replace y3 := (hb2.cell (p := ⟨db, doo + j * 4 + 3, none⟩) hdb).trans y3
  replace hdb := Nat.lt_of_lt_of_le hdb hb2.size
  replace hB := below_then hB hb2
  clear hb2 hu2
  show wpPure _ _ _ _
  intro ks hks hall hH
  obtain ⟨k1, rfl⟩ : ∃ k1, ks = [some k1] := by
    match ks, hks with
    | [none], _ => exact absurd rfl (hall 0)
    | [some k1], _ => exact ⟨k1, rfl⟩
  obtain ⟨o1, ge1, lt1⟩ := hH.obj 0 k1 rfl
  rw [show ([Obj.cells #[.int .i64 0, .int .i64 0, .int .i64 0, .int .i64 0] 104])[0]? = some (.cells #[.int .i64 0, .int .i64 0, .int .i64 0, .int .i64 0] 104) from rfl] at o1
  clear hH hall hks
  show wpList _ _ _ _ _ _
  simp only [deco, ptrV]
  refine wpList_store_rowTo rfl 104 _ _ rfl rfl k1 #[.int .i64 y.id, .int .i64 y.hour, .int .i64 y.lo, .int .i64 y.hi] rfl rfl 104 _ o1 (by kernel_rfl) (by first | rfl | kernel_rfl) (by first | rfl | kernel_rfl) ?_
  have bd := setRow_heap V2_0 k1 _ #[.int .i64 y.id, .int .i64 y.hour, .int .i64 y.lo, .int .i64 y.hi] _ _ o1
  have HS := below_setRow (Below.refl k1 V2_0) (Nat.le_refl _) #[.int .i64 y.id, .int .i64 y.hour, .int .i64 y.lo, .int .i64 y.hi]
  replace bk := (setRow_other _ _ _ #[.int .i64 y.id, .int .i64 y.hour, .int .i64 y.lo, .int .i64 y.hi] (show _ ≠ k1 by omega)).trans bk
  replace hB := below_setRow hB (show w.heap.size ≤ k1 by omega) #[.int .i64 y.id, .int .i64 y.hour, .int .i64 y.lo, .int .i64 y.hi]
  clear HS o1 ge1 lt1 szbk szB
  generalize V2_0.setRow k1 #[.int .i64 y.id, .int .i64 y.hour, .int .i64 y.lo, .int .i64 y.hi] = w3 at bd hB bk ⊢
  clear y0 y1 y2 y3 hdb
  have cbk0 := Joins.cell_of_block bk 0
  have cbk1 := Joins.cell_of_block bk 1
  have cbk2 := Joins.cell_of_block bk 2
  have cbk3 := Joins.cell_of_block bk 3
  have cbk4 := Joins.cell_of_block bk 4
  have zbk := size_of_block bk
  have cbd0 := Joins.cell_of_block bd 0
  have zbd := size_of_block bd
  go_wp2_with fail
  refine (HWT.out w3 (HK.out.later hB)).mono ?_
  rintro e w4 ⟨rfl, hF⟩
  clear cbk0 cbk1 cbk2 cbk3 cbk4 zbk cbd0 zbd
  replace bk := (hF.block _ (size_of_block bk)).trans bk
  replace bd := (hF.block _ (size_of_block bd)).trans bd
  replace hB := below_then hB hF
  clear hF
  have b6 := heap_alloc_new w4 (.cells #[.int .i64 WA, .int .i64 WB] 63)
  have HB := below_alloc w4 (.cells #[.int .i64 WA, .int .i64 WB] 63)
  have cbk0 := Joins.cell_of_block ((HB.block _ (size_of_block bk)).trans bk) 0
  have cbk1 := Joins.cell_of_block ((HB.block _ (size_of_block bk)).trans bk) 1
  have cbk2 := Joins.cell_of_block ((HB.block _ (size_of_block bk)).trans bk) 2
  have cbk3 := Joins.cell_of_block ((HB.block _ (size_of_block bk)).trans bk) 3
  have cbk4 := Joins.cell_of_block ((HB.block _ (size_of_block bk)).trans bk) 4
  have zbk := size_of_block bk
  have cbd0 := Joins.cell_of_block ((HB.block _ (size_of_block bd)).trans bd) 0
  have zbd := size_of_block bd
  go_wp2_with fail
  generalize (w4.alloc (.cells #[.int .i64 WA, .int .i64 WB] 63)) = w5 at b6 HB cbk0 cbk1 cbk2 cbk3 cbk4 cbd0 ⊢
  replace bk := (HB.block _ (size_of_block bk)).trans bk
  replace bd := (HB.block _ (size_of_block bd)).trans bd
  replace hB := below_then hB HB
  clear HB
  refine (HSO.out w5 (HK.out.later hB)).mono ?_
  rintro e w6 ⟨u1, u2, rfl, ⟨hO1, hO2⟩, hF⟩
  clear cbk0 cbk1 cbk2 cbk3 cbk4 zbk cbd0 zbd
  replace bk := (hF.block _ (size_of_block bk)).trans bk
  replace bd := (hF.block _ (size_of_block bd)).trans bd
  replace b6 := (hF.block _ (size_of_block b6)).trans b6
  replace hB := below_then hB hF
  clear hF
  obtain ⟨P1, p1, rfl⟩ := own_form hO1
  obtain ⟨P2, p2, rfl⟩ := own_form hO2
  have cbk0 := Joins.cell_of_block bk 0
  have cbk1 := Joins.cell_of_block bk 1
  have cbk2 := Joins.cell_of_block bk 2
  have cbk3 := Joins.cell_of_block bk 3
  have cbk4 := Joins.cell_of_block bk 4
  have zbk := size_of_block bk
  go_wp2_with fail
  clear cbk0 cbk1 cbk2 cbk3 cbk4 zbk
  have BK' := Lib.hid bk
  have BD' := Lib.hid bd
  have B6' := Lib.hid b6
  have HO1' := Lib.hid hO1
  have HO2' := Lib.hid hO2
  have HB0 := Lib.hid hB
  clear bk bd b6 hO1 hO2 hB
  go_loopw [11, 12, 13, 14, 83] (fun le mo fi la ix wr => ∃ (i : Nat) (f l : Int), i ≤ k.ls.length ∧ le = .int .i64 (sumTo LT i) ∧ mo = .int .i64 (sumTo MT i) ∧ fi = .int .i64 f ∧ la = .int .i64 l ∧ ix = .int .i64 i ∧ Hid (FL LT i f l) ∧ Below w6.heap.size w6 wr) (fun _ _ _ _ ix _ => k.ls.length - (intOf ix).toNat)
  case atStart => exact ⟨0, -1, -1, Nat.zero_le _, by rw [HZL.out], by rw [HZM.out], rfl, rfl, rfl, Lib.hid (.inl ⟨rfl, rfl⟩), Below.refl _ _⟩
  case round =>
    obtain ⟨i, f, l, hi, rfl, rfl, rfl, rfl, rfl, hFL, hbw⟩ := hrel
    have bk := (hbw.block _ (size_of_block BK'.out)).trans BK'.out
    have bd := (hbw.block _ (size_of_block BD'.out)).trans BD'.out
    have b6 := (hbw.block _ (size_of_block B6'.out)).trans B6'.out
    have hO1 := own_later HO1'.out hbw
    have hO2 := own_later HO2'.out hbw
    have hB := below_then HB0.out hbw
    have hS1 := HSL.out i hi
    have hS2 := HSM.out i hi
    by_cases hlt : i < k.ls.length
    · have hbB := Below.refl wr.heap.size wr
      have hkW := HK.out.later hB
      obtain ⟨al, ad, aw, e9, hl, hd, _⟩ := hkW
      obtain ⟨rfl, rfl, rfl⟩ : .slice A1 k.ls.length c1 = al ∧ .slice (some ⟨db, doo, none⟩) k.ds.length c2 = ad ∧ .slice A3 k.ws.length c3 = aw := by simpa using e9
      obtain ⟨A', c', e8, _, hln, hat⟩ := hl.open_
      obtain ⟨rfl, rfl⟩ : A1 = A' ∧ c1 = c' := by simpa using e8
      obtain ⟨sb, so, x, rfl, hsb, hx, x0, x1, x2, x3⟩ := hat i hlt
      clear hat hl hd e8 e9
      have hrg := HRG.out i hlt
      have hnl := HNL.out i
      have hnm := HNM.out i
      have yT := fun W h => HTK.out i x hx (.agg #[.int .i64 k.room, .int .i64 k.per, .slice (some ⟨sb, so, none⟩) k.ls.length c1, .slice (some ⟨db, doo, none⟩) k.ds.length c2, .slice A3 k.ws.length c3]) W h
      have h1 := HS1.out i x hx
      have h2 := HS2.out i x hx
      have h3 := HLT.out i x hx
      obtain ⟨S1, e1⟩ : ∃ z, z = sumTo LT i := ⟨_, rfl⟩
      obtain ⟨S2, e2⟩ : ∃ z, z = sumTo MT i := ⟨_, rfl⟩
      rw [← e1] at hS1 hnl
      rw [← e2] at hS2 hnm
      rw [← e1, ← e2]
      clear e1 e2
      have hLi : 0 < LT i → 0 < LT i := id
      obtain ⟨z1, e1⟩ : ∃ z, z = LT i := ⟨_, rfl⟩
      obtain ⟨z2, e2⟩ : ∃ z, z = MT i := ⟨_, rfl⟩
      rw [← e1] at hrg hnl yT h1
      rw [← e2] at hrg hnm yT h2 h3
      have HZ1 := Lib.hid e1
      clear e1 e2 hLi
      obtain ⟨b1, hb1⟩ : ∃ z, z = decide (0 < z1) := ⟨_, rfl⟩
      obtain ⟨b2, hb2⟩ : ∃ z, z = decide (0 < z2) := ⟨_, rfl⟩
      rw [← hb1] at h1
      rw [← hb2] at h2
      have hb1' := hb1.symm
      have hb2' := hb2.symm
      clear hb1 hb2
      have HH1 := Lib.hid h1
      have HH2 := Lib.hid h2
      have HTI := Lib.hid yT
      have HNL1 := Lib.hid hnl
      have HNM1 := Lib.hid hnm
      have H3 := Lib.hid h3
      have hi4 : (i : Int) ≤ 4 := by omega
      clear yT h1 h2 h3 hnl hnm hx
      obtain ⟨⟨g1, g2⟩, g3, g4⟩ := hrg
      obtain ⟨g5, g6⟩ := hS1
      obtain ⟨g7, g8⟩ := hS2
      have b16 := heap_alloc_new wr (.cells #[.int .i64 x.id, .int .i64 x.hour, .int .i64 x.lo, .int .i64 x.hi] 103)
      have HB := below_alloc wr (.cells #[.int .i64 x.id, .int .i64 x.hour, .int .i64 x.lo, .int .i64 x.hi] 103)
      have cbk0 := Joins.cell_of_block ((HB.block _ (size_of_block bk)).trans bk) 0
      have cbk1 := Joins.cell_of_block ((HB.block _ (size_of_block bk)).trans bk) 1
      have cbk2 := Joins.cell_of_block ((HB.block _ (size_of_block bk)).trans bk) 2
      have cbk3 := Joins.cell_of_block ((HB.block _ (size_of_block bk)).trans bk) 3
      have cbk4 := Joins.cell_of_block ((HB.block _ (size_of_block bk)).trans bk) 4
      have zbk := size_of_block bk
      have cbd0 := Joins.cell_of_block ((HB.block _ (size_of_block bd)).trans bd) 0
      have zbd := size_of_block bd
      have cb160 := Joins.cell_of_block b16 0
      have zb16 := size_of_block b16
      go_wp2_with fail
      all_goals (try (exfalso; omega))
      generalize (wr.alloc (.cells #[.int .i64 x.id, .int .i64 x.hour, .int .i64 x.lo, .int .i64 x.hi] 103)) = w101 at b16 HB cbk0 cbk1 cbk2 cbk3 cbk4 cbd0 cb160 zb16 ⊢
      replace bk := (HB.block _ (size_of_block bk)).trans bk
      replace bd := (HB.block _ (size_of_block bd)).trans bd
      replace b6 := (HB.block _ (size_of_block b6)).trans b6
      replace hO1 := own_later hO1 HB
      replace hO2 := own_later hO2 HB
      replace hbB := below_then hbB HB
      replace hB := below_then hB HB
      clear HB
      clear x0 x1 x2 x3 hsb
      refine (HTI.out w101 (HK.out.later hB)).mono ?_
      rintro e w102 ⟨rfl, hF⟩
      clear cbk0 cbk1 cbk2 cbk3 cbk4 zbk cbd0 zbd cb160 zb16
      replace bk := (hF.block _ (size_of_block bk)).trans bk
      replace bd := (hF.block _ (size_of_block bd)).trans bd
      replace b6 := (hF.block _ (size_of_block b6)).trans b6
      replace b16 := (hF.block _ (size_of_block b16)).trans b16
      replace hO1 := own_later hO1 hF
      replace hO2 := own_later hO2 hF
      replace hbB := below_then hbB hF
      replace hB := below_then hB hF
      clear hF
      have b17 := heap_alloc_new w102 (.cells #[.int .i64 z1, .int .i64 z2] 63)
      have HB := below_alloc w102 (.cells #[.int .i64 z1, .int .i64 z2] 63)
      go_wp2_with fail
      generalize (w102.alloc (.cells #[.int .i64 z1, .int .i64 z2] 63)) = w103 at b17 HB  ⊢
      replace bk := (HB.block _ (size_of_block bk)).trans bk
      replace bd := (HB.block _ (size_of_block bd)).trans bd
      replace b6 := (HB.block _ (size_of_block b6)).trans b6
      replace b16 := (HB.block _ (size_of_block b16)).trans b16
      replace hO1 := own_later hO1 HB
      replace hO2 := own_later hO2 HB
      replace hbB := below_then hbB HB
      replace hB := below_then hB HB
      clear HB
      by_cases hh : y.hour < x.hour
      · have hz2 := H3.out hh
        have hd2 : decide (0 < z2) = false := by simp [hz2]
        obtain rfl : b2 = false := by rw [← hb2']; exact hd2
        have hdh : decide (y.hour < x.hour) = true := decide_eq_true hh
        go_wp2_with fail
        refine wp_region_planW [.f [0, 1, 2, 3, 4, 5, 7, 8, 9], .s 6, .f [10, 11, 12, 13, 14, 15, 17, 18, 19], .s 16, .f [20, 21, 22, 23, 24, 25, 26, 27, 28, 29, 30, 31, 32, 33]] [] (by kernel_rfl) (by kernel_rfl) (by intro c a d v w h; cases d <;> exact h) ?_
        intro p104_0 hu
        replace bk := (hu.block _ (size_of_block bk)).trans bk
        replace bd := (hu.block _ (size_of_block bd)).trans bd
        replace b6 := (hu.block _ (size_of_block b6)).trans b6
        replace b16 := (hu.block _ (size_of_block b16)).trans b16
        replace b17 := (hu.block _ (size_of_block b17)).trans b17
        replace hO1 := own_later hO1 hu
        replace hO2 := own_later hO2 hu
        replace hbB := below_then hbB hu
        replace hB := below_then hB hu
        clear hu
        refine wpPlanW_r ?_
        simp only [pick, List.filterMap_cons, List.filterMap_nil, List.getElem?_toArray, List.getElem?_cons_succ, List.getElem?_cons_zero]
        have cb160 := Joins.cell_of_block b16 0
        have cb161 := Joins.cell_of_block b16 1
        have zb16 := size_of_block b16
        have cb170 := Joins.cell_of_block b17 0
        have cb171 := Joins.cell_of_block b17 1
        have zb17 := size_of_block b17
        have hcg : ∀ (g : Gr p104_0) b o, b < p104_0.heap.size → g.val.cell? ⟨b, o, none⟩ = p104_0.cell? ⟨b, o, none⟩ := fun g b o h => (bcell g.b).1 b o h
        refine WR.step (by kernel_rfl) (fun K hK => ?_); go_simp; refine hK _ ?_; clear hK K
        refine WR.val (.bool false) (by kernel_rfl) (by intro g; first | (simp [execOp, go_sem]; done) | kernel_rfl) ?_
        refine WR.val (.bool false) (by kernel_rfl) (by intro g; first | (simp [execOp, go_sem]; done) | kernel_rfl) ?_
        refine WR.step (by kernel_rfl) (fun K hK => ?_); go_simp; refine hK _ ?_; clear hK K
        refine WR.step (by kernel_rfl) (fun K hK => ?_); go_simp; refine hK _ ?_; clear hK K
        refine WR.step (by kernel_rfl) (fun K hK => ?_); go_simp; refine hK _ ?_; clear hK K
        refine WR.step (by kernel_rfl) (fun K hK => ?_); go_simp; refine hK _ ?_; clear hK K
        refine WR.step (by kernel_rfl) (fun K hK => ?_); go_simp; refine hK _ ?_; clear hK K
        refine WR.val (.bool b1) (by kernel_rfl) (by intro g; simp [execOp, go_sem, hb1']) ?_
        go_simp
        refine WR.nil fun p104_1 hb => ?_
        clear hcg cb160 cb161 zb16 cb170 cb171 zb17
        replace bk := (hb.block _ (size_of_block bk)).trans bk
        replace bd := (hb.block _ (size_of_block bd)).trans bd
        replace b6 := (hb.block _ (size_of_block b6)).trans b6
        replace b16 := (hb.block _ (size_of_block b16)).trans b16
        replace b17 := (hb.block _ (size_of_block b17)).trans b17
        replace hO1 := own_later hO1 hb
        replace hO2 := own_later hO2 hb
        replace hbB := below_then hbB hb
        replace hB := below_then hB hb
        clear hb
        refine wpPlanW_call rfl (by kernel_rfl) fun K hK => ?_
        go_simp
        refine (lhas_b _ SS x.id b1 p104_1 (Ints.of_own hO1 (by omega)) HH1.out).mono ?_
        rintro e X ⟨rfl, hxx⟩
        refine hK _ _ hxx fun p104_2 hu => ?_
        clear hK K
        have hv := below_then hxx hu
        replace bk := (hv.block _ (size_of_block bk)).trans bk
        replace bd := (hv.block _ (size_of_block bd)).trans bd
        replace b6 := (hv.block _ (size_of_block b6)).trans b6
        replace b16 := (hv.block _ (size_of_block b16)).trans b16
        replace b17 := (hv.block _ (size_of_block b17)).trans b17
        replace hO1 := own_later hO1 hv
        replace hO2 := own_later hO2 hv
        replace hbB := below_then hbB hv
        replace hB := below_then hB hv
        clear hxx hu hv
        refine wpPlanW_r ?_
        simp only [pick, List.filterMap_cons, List.filterMap_nil, List.getElem?_toArray, List.getElem?_cons_succ, List.getElem?_cons_zero]
        have cb160 := Joins.cell_of_block b16 0
        have cb161 := Joins.cell_of_block b16 1
        have zb16 := size_of_block b16
        have cb170 := Joins.cell_of_block b17 0
        have cb171 := Joins.cell_of_block b17 1
        have zb17 := size_of_block b17
        have hcg : ∀ (g : Gr p104_2) b o, b < p104_2.heap.size → g.val.cell? ⟨b, o, none⟩ = p104_2.cell? ⟨b, o, none⟩ := fun g b o h => (bcell g.b).1 b o h
        refine WR.val (.bool false) (by kernel_rfl) (by intro g; simp [execOp, go_sem, go_sem]) ?_
        refine WR.val (.bool false) (by kernel_rfl) (by intro g; first | (simp [execOp, go_sem]; done) | kernel_rfl) ?_
        refine WR.val (.bool false) (by kernel_rfl) (by intro g; first | (simp [execOp, go_sem]; done) | kernel_rfl) ?_
        refine WR.step (by kernel_rfl) (fun K hK => ?_); go_simp; refine hK _ ?_; clear hK K
        refine WR.step (by kernel_rfl) (fun K hK => ?_); go_simp; refine hK _ ?_; clear hK K
        refine WR.step (by kernel_rfl) (fun K hK => ?_); go_simp; refine hK _ ?_; clear hK K
        refine WR.step (by kernel_rfl) (fun K hK => ?_); go_simp; refine hK _ ?_; clear hK K
        refine WR.step (by kernel_rfl) (fun K hK => ?_); go_simp; refine hK _ ?_; clear hK K
        refine WR.val (.bool false) (by kernel_rfl) (by intro g; simp [execOp, go_sem, hb2']) ?_
        go_simp
        refine WR.nil fun p104_3 hb => ?_
        clear hcg cb160 cb161 zb16 cb170 cb171 zb17
        replace bk := (hb.block _ (size_of_block bk)).trans bk
        replace bd := (hb.block _ (size_of_block bd)).trans bd
        replace b6 := (hb.block _ (size_of_block b6)).trans b6
        replace b16 := (hb.block _ (size_of_block b16)).trans b16
        replace b17 := (hb.block _ (size_of_block b17)).trans b17
        replace hO1 := own_later hO1 hb
        replace hO2 := own_later hO2 hb
        replace hbB := below_then hbB hb
        replace hB := below_then hB hb
        clear hb
        refine wpPlanW_call rfl (by kernel_rfl) fun K hK => ?_
        go_simp
        refine (lhas_b _ SX x.id false p104_3 (Ints.of_own hO2 (by omega)) HH2.out).mono ?_
        rintro e X ⟨rfl, hxx⟩
        refine hK _ _ hxx fun p104_4 hu => ?_
        clear hK K
        have hv := below_then hxx hu
        replace bk := (hv.block _ (size_of_block bk)).trans bk
        replace bd := (hv.block _ (size_of_block bd)).trans bd
        replace b6 := (hv.block _ (size_of_block b6)).trans b6
        replace b16 := (hv.block _ (size_of_block b16)).trans b16
        replace b17 := (hv.block _ (size_of_block b17)).trans b17
        replace hO1 := own_later hO1 hv
        replace hO2 := own_later hO2 hv
        replace hbB := below_then hbB hv
        replace hB := below_then hB hv
        clear hxx hu hv
        refine wpPlanW_r ?_
        simp only [pick, List.filterMap_cons, List.filterMap_nil, List.getElem?_toArray, List.getElem?_cons_succ, List.getElem?_cons_zero]
        have cb160 := Joins.cell_of_block b16 0
        have cb161 := Joins.cell_of_block b16 1
        have zb16 := size_of_block b16
        have cbd0 := Joins.cell_of_block bd 0
        have cbd1 := Joins.cell_of_block bd 1
        have zbd := size_of_block bd
        have cb170 := Joins.cell_of_block b17 0
        have cb171 := Joins.cell_of_block b17 1
        have zb17 := size_of_block b17
        have hcg : ∀ (g : Gr p104_4) b o, b < p104_4.heap.size → g.val.cell? ⟨b, o, none⟩ = p104_4.cell? ⟨b, o, none⟩ := fun g b o h => (bcell g.b).1 b o h
        refine WR.val (.bool false) (by kernel_rfl) (by intro g; simp [execOp, go_sem, go_sem]) ?_
        refine WR.val (.bool false) (by kernel_rfl) (by intro g; first | (simp [execOp, go_sem]; done) | kernel_rfl) ?_
        refine WR.val (.bool false) (by kernel_rfl) (by intro g; first | (simp [execOp, go_sem]; done) | kernel_rfl) ?_
        refine WR.step (by kernel_rfl) (fun K hK => ?_); go_simp; refine hK _ ?_; clear hK K
        refine WR.step (by kernel_rfl) (fun K hK => ?_); go_simp; refine hK _ ?_; clear hK K
        refine WR.step (by kernel_rfl) (fun K hK => ?_); go_simp; refine hK _ ?_; clear hK K
        refine WR.step (by kernel_rfl) (fun K hK => ?_); go_simp; refine hK _ ?_; clear hK K
        refine WR.val (.bool true) (by kernel_rfl) (by intro g; simp [execOp, go_sem, hdh]) ?_
        refine WR.val (.bool true) (by kernel_rfl) (by intro g; first | (simp [execOp, go_sem]; done) | kernel_rfl) ?_
        refine WR.step (by kernel_rfl) (fun K hK => ?_); go_simp; refine hK _ ?_; clear hK K
        refine WR.step (by kernel_rfl) (fun K hK => ?_); go_simp; refine hK _ ?_; clear hK K
        refine WR.val (.bool false) (by kernel_rfl) (by intro g; simp [execOp, go_sem, hd2]) ?_
        refine WR.val (.bool false) (by kernel_rfl) (by intro g; first | (simp [execOp, go_sem]; done) | kernel_rfl) ?_
        refine WR.val (.bool false) (by kernel_rfl) (by intro g; first | (simp [execOp, go_sem]; done) | kernel_rfl) ?_
        go_simp
        refine WR.nil fun p104_5 hb => ?_
        clear hcg cb160 cb161 zb16 cbd0 cbd1 zbd cb170 cb171 zb17
        replace bk := (hb.block _ (size_of_block bk)).trans bk
        replace bd := (hb.block _ (size_of_block bd)).trans bd
        replace b6 := (hb.block _ (size_of_block b6)).trans b6
        replace b16 := (hb.block _ (size_of_block b16)).trans b16
        replace b17 := (hb.block _ (size_of_block b17)).trans b17
        replace hO1 := own_later hO1 hb
        replace hO2 := own_later hO2 hb
        replace hbB := below_then hbB hb
        replace hB := below_then hB hb
        clear hb
        refine wpPlanW_nil ?_
        show wpList _ _ _ _ _ _
        skip
        clear hb1' hb2' hdh hd2
        by_cases hz : 0 < z1
        · have HZP := Lib.hid (show 0 < LT i by rw [← HZ1.out]; exact hz)
          by_cases hf : f < 0
          · skip
            have cb170 := Joins.cell_of_block b17 0
            have cb171 := Joins.cell_of_block b17 1
            have zb17 := size_of_block b17
            go_wp2_with fail
            all_goals (try (exfalso; omega))
            clear cb170 cb171 zb17
            go_roundw
            case rel => exact ⟨i + 1, i, i, by omega, by rw [HNL1.out], by rw [HNM1.out, hz2, Int.add_zero], rfl, rfl, by go_num, Lib.hid (FL.begin HZP.out), below_then hbw hbB⟩
            case measure => simp [intOf]; omega
          · skip
            have cb170 := Joins.cell_of_block b17 0
            have cb171 := Joins.cell_of_block b17 1
            have zb17 := size_of_block b17
            go_wp2_with fail
            all_goals (try (exfalso; omega))
            clear cb170 cb171 zb17
            go_roundw
            case rel => exact ⟨i + 1, f, i, by omega, by rw [HNL1.out], by rw [HNM1.out, hz2, Int.add_zero], rfl, rfl, by go_num, Lib.hid (hFL.out.more hf HZP.out), below_then hbw hbB⟩
            case measure => simp [intOf]; omega
        · skip
          have cb170 := Joins.cell_of_block b17 0
          have cb171 := Joins.cell_of_block b17 1
          have zb17 := size_of_block b17
          go_wp2_with fail
          all_goals (try (exfalso; omega))
          clear cb170 cb171 zb17
          go_roundw
          case rel => exact ⟨i + 1, f, l, by omega, by rw [HNL1.out], by rw [HNM1.out, hz2, Int.add_zero], rfl, rfl, by go_num, Lib.hid hFL.out.same, below_then hbw hbB⟩
          case measure => simp [intOf]; omega
      · have hdh : decide (y.hour < x.hour) = false := decide_eq_false hh
        go_wp2_with fail
        refine wp_region_planW [.f [0, 1, 2, 3, 4, 5, 7, 8, 9], .s 6, .f [10, 11, 12, 13, 14, 15, 17, 18, 19], .s 16, .f [20, 21, 22, 23, 24, 25, 26, 27, 28, 29, 30, 31, 32, 33]] [] (by kernel_rfl) (by kernel_rfl) (by intro c a d v w h; cases d <;> exact h) ?_
        intro p104_0 hu
        replace bk := (hu.block _ (size_of_block bk)).trans bk
        replace bd := (hu.block _ (size_of_block bd)).trans bd
        replace b6 := (hu.block _ (size_of_block b6)).trans b6
        replace b16 := (hu.block _ (size_of_block b16)).trans b16
        replace b17 := (hu.block _ (size_of_block b17)).trans b17
        replace hO1 := own_later hO1 hu
        replace hO2 := own_later hO2 hu
        replace hbB := below_then hbB hu
        replace hB := below_then hB hu
        clear hu
        refine wpPlanW_r ?_
        simp only [pick, List.filterMap_cons, List.filterMap_nil, List.getElem?_toArray, List.getElem?_cons_succ, List.getElem?_cons_zero]
        have cb160 := Joins.cell_of_block b16 0
        have cb161 := Joins.cell_of_block b16 1
        have zb16 := size_of_block b16
        have cb170 := Joins.cell_of_block b17 0
        have cb171 := Joins.cell_of_block b17 1
        have zb17 := size_of_block b17
        have hcg : ∀ (g : Gr p104_0) b o, b < p104_0.heap.size → g.val.cell? ⟨b, o, none⟩ = p104_0.cell? ⟨b, o, none⟩ := fun g b o h => (bcell g.b).1 b o h
        refine WR.step (by kernel_rfl) (fun K hK => ?_); go_simp; refine hK _ ?_; clear hK K
        refine WR.val (.bool false) (by kernel_rfl) (by intro g; first | (simp [execOp, go_sem]; done) | kernel_rfl) ?_
        refine WR.val (.bool false) (by kernel_rfl) (by intro g; first | (simp [execOp, go_sem]; done) | kernel_rfl) ?_
        refine WR.step (by kernel_rfl) (fun K hK => ?_); go_simp; refine hK _ ?_; clear hK K
        refine WR.step (by kernel_rfl) (fun K hK => ?_); go_simp; refine hK _ ?_; clear hK K
        refine WR.step (by kernel_rfl) (fun K hK => ?_); go_simp; refine hK _ ?_; clear hK K
        refine WR.step (by kernel_rfl) (fun K hK => ?_); go_simp; refine hK _ ?_; clear hK K
        refine WR.step (by kernel_rfl) (fun K hK => ?_); go_simp; refine hK _ ?_; clear hK K
        refine WR.val (.bool b1) (by kernel_rfl) (by intro g; simp [execOp, go_sem, hb1']) ?_
        go_simp
        refine WR.nil fun p104_1 hb => ?_
        clear hcg cb160 cb161 zb16 cb170 cb171 zb17
        replace bk := (hb.block _ (size_of_block bk)).trans bk
        replace bd := (hb.block _ (size_of_block bd)).trans bd
        replace b6 := (hb.block _ (size_of_block b6)).trans b6
        replace b16 := (hb.block _ (size_of_block b16)).trans b16
        replace b17 := (hb.block _ (size_of_block b17)).trans b17
        replace hO1 := own_later hO1 hb
        replace hO2 := own_later hO2 hb
        replace hbB := below_then hbB hb
        replace hB := below_then hB hb
        clear hb
        refine wpPlanW_call rfl (by kernel_rfl) fun K hK => ?_
        go_simp
        refine (lhas_b _ SS x.id b1 p104_1 (Ints.of_own hO1 (by omega)) HH1.out).mono ?_
        rintro e X ⟨rfl, hxx⟩
        refine hK _ _ hxx fun p104_2 hu => ?_
        clear hK K
        have hv := below_then hxx hu
        replace bk := (hv.block _ (size_of_block bk)).trans bk
        replace bd := (hv.block _ (size_of_block bd)).trans bd
        replace b6 := (hv.block _ (size_of_block b6)).trans b6
        replace b16 := (hv.block _ (size_of_block b16)).trans b16
        replace b17 := (hv.block _ (size_of_block b17)).trans b17
        replace hO1 := own_later hO1 hv
        replace hO2 := own_later hO2 hv
        replace hbB := below_then hbB hv
        replace hB := below_then hB hv
        clear hxx hu hv
        refine wpPlanW_r ?_
        simp only [pick, List.filterMap_cons, List.filterMap_nil, List.getElem?_toArray, List.getElem?_cons_succ, List.getElem?_cons_zero]
        have cb160 := Joins.cell_of_block b16 0
        have cb161 := Joins.cell_of_block b16 1
        have zb16 := size_of_block b16
        have cb170 := Joins.cell_of_block b17 0
        have cb171 := Joins.cell_of_block b17 1
        have zb17 := size_of_block b17
        have hcg : ∀ (g : Gr p104_2) b o, b < p104_2.heap.size → g.val.cell? ⟨b, o, none⟩ = p104_2.cell? ⟨b, o, none⟩ := fun g b o h => (bcell g.b).1 b o h
        refine WR.val (.bool false) (by kernel_rfl) (by intro g; simp [execOp, go_sem, go_sem]) ?_
        refine WR.val (.bool false) (by kernel_rfl) (by intro g; first | (simp [execOp, go_sem]; done) | kernel_rfl) ?_
        refine WR.val (.bool false) (by kernel_rfl) (by intro g; first | (simp [execOp, go_sem]; done) | kernel_rfl) ?_
        refine WR.step (by kernel_rfl) (fun K hK => ?_); go_simp; refine hK _ ?_; clear hK K
        refine WR.step (by kernel_rfl) (fun K hK => ?_); go_simp; refine hK _ ?_; clear hK K
        refine WR.step (by kernel_rfl) (fun K hK => ?_); go_simp; refine hK _ ?_; clear hK K
        refine WR.step (by kernel_rfl) (fun K hK => ?_); go_simp; refine hK _ ?_; clear hK K
        refine WR.step (by kernel_rfl) (fun K hK => ?_); go_simp; refine hK _ ?_; clear hK K
        refine WR.val (.bool b2) (by kernel_rfl) (by intro g; simp [execOp, go_sem, hb2']) ?_
        go_simp
        refine WR.nil fun p104_3 hb => ?_
        clear hcg cb160 cb161 zb16 cb170 cb171 zb17
        replace bk := (hb.block _ (size_of_block bk)).trans bk
        replace bd := (hb.block _ (size_of_block bd)).trans bd
        replace b6 := (hb.block _ (size_of_block b6)).trans b6
        replace b16 := (hb.block _ (size_of_block b16)).trans b16
        replace b17 := (hb.block _ (size_of_block b17)).trans b17
        replace hO1 := own_later hO1 hb
        replace hO2 := own_later hO2 hb
        replace hbB := below_then hbB hb
        replace hB := below_then hB hb
        clear hb
        refine wpPlanW_call rfl (by kernel_rfl) fun K hK => ?_
        go_simp
        refine (lhas_b _ SX x.id b2 p104_3 (Ints.of_own hO2 (by omega)) HH2.out).mono ?_
        rintro e X ⟨rfl, hxx⟩
        refine hK _ _ hxx fun p104_4 hu => ?_
        clear hK K
        have hv := below_then hxx hu
        replace bk := (hv.block _ (size_of_block bk)).trans bk
        replace bd := (hv.block _ (size_of_block bd)).trans bd
        replace b6 := (hv.block _ (size_of_block b6)).trans b6
        replace b16 := (hv.block _ (size_of_block b16)).trans b16
        replace b17 := (hv.block _ (size_of_block b17)).trans b17
        replace hO1 := own_later hO1 hv
        replace hO2 := own_later hO2 hv
        replace hbB := below_then hbB hv
        replace hB := below_then hB hv
        clear hxx hu hv
        refine wpPlanW_r ?_
        simp only [pick, List.filterMap_cons, List.filterMap_nil, List.getElem?_toArray, List.getElem?_cons_succ, List.getElem?_cons_zero]
        have cb160 := Joins.cell_of_block b16 0
        have cb161 := Joins.cell_of_block b16 1
        have zb16 := size_of_block b16
        have cbd0 := Joins.cell_of_block bd 0
        have cbd1 := Joins.cell_of_block bd 1
        have zbd := size_of_block bd
        have cb170 := Joins.cell_of_block b17 0
        have cb171 := Joins.cell_of_block b17 1
        have zb17 := size_of_block b17
        have hcg : ∀ (g : Gr p104_4) b o, b < p104_4.heap.size → g.val.cell? ⟨b, o, none⟩ = p104_4.cell? ⟨b, o, none⟩ := fun g b o h => (bcell g.b).1 b o h
        refine WR.val (.bool false) (by kernel_rfl) (by intro g; simp [execOp, go_sem, go_sem]) ?_
        refine WR.val (.bool false) (by kernel_rfl) (by intro g; first | (simp [execOp, go_sem]; done) | kernel_rfl) ?_
        refine WR.val (.bool false) (by kernel_rfl) (by intro g; first | (simp [execOp, go_sem]; done) | kernel_rfl) ?_
        refine WR.step (by kernel_rfl) (fun K hK => ?_); go_simp; refine hK _ ?_; clear hK K
        refine WR.step (by kernel_rfl) (fun K hK => ?_); go_simp; refine hK _ ?_; clear hK K
        refine WR.step (by kernel_rfl) (fun K hK => ?_); go_simp; refine hK _ ?_; clear hK K
        refine WR.step (by kernel_rfl) (fun K hK => ?_); go_simp; refine hK _ ?_; clear hK K
        refine WR.val (.bool false) (by kernel_rfl) (by intro g; simp [execOp, go_sem, hdh]) ?_
        refine WR.val (.bool false) (by kernel_rfl) (by intro g; first | (simp [execOp, go_sem]; done) | kernel_rfl) ?_
        refine WR.pass (by kernel_rfl) ?_
        refine WR.pass (by kernel_rfl) ?_
        refine WR.pass (by kernel_rfl) ?_
        refine WR.val (.bool false) (by kernel_rfl) (by intro g; first | (simp [execOp, go_sem]; done) | kernel_rfl) ?_
        refine WR.val (.bool false) (by kernel_rfl) (by intro g; first | (simp [execOp, go_sem]; done) | kernel_rfl) ?_
        go_simp
        refine WR.nil fun p104_5 hb => ?_
        clear hcg cb160 cb161 zb16 cbd0 cbd1 zbd cb170 cb171 zb17
        replace bk := (hb.block _ (size_of_block bk)).trans bk
        replace bd := (hb.block _ (size_of_block bd)).trans bd
        replace b6 := (hb.block _ (size_of_block b6)).trans b6
        replace b16 := (hb.block _ (size_of_block b16)).trans b16
        replace b17 := (hb.block _ (size_of_block b17)).trans b17
        replace hO1 := own_later hO1 hb
        replace hO2 := own_later hO2 hb
        replace hbB := below_then hbB hb
        replace hB := below_then hB hb
        clear hb
        refine wpPlanW_nil ?_
        show wpList _ _ _ _ _ _
        skip
        clear hb1' hb2' hdh
        by_cases hz : 0 < z1
        · have HZP := Lib.hid (show 0 < LT i by rw [← HZ1.out]; exact hz)
          by_cases hf : f < 0
          · skip
            have cb170 := Joins.cell_of_block b17 0
            have cb171 := Joins.cell_of_block b17 1
            have zb17 := size_of_block b17
            go_wp2_with fail
            all_goals (try (exfalso; omega))
            clear cb170 cb171 zb17
            go_roundw
            case rel => exact ⟨i + 1, i, i, by omega, by rw [HNL1.out], by rw [HNM1.out], rfl, rfl, by go_num, Lib.hid (FL.begin HZP.out), below_then hbw hbB⟩
            case measure => simp [intOf]; omega
          · skip
            have cb170 := Joins.cell_of_block b17 0
            have cb171 := Joins.cell_of_block b17 1
            have zb17 := size_of_block b17
            go_wp2_with fail
            all_goals (try (exfalso; omega))
            clear cb170 cb171 zb17
            go_roundw
            case rel => exact ⟨i + 1, f, i, by omega, by rw [HNL1.out], by rw [HNM1.out], rfl, rfl, by go_num, Lib.hid (hFL.out.more hf HZP.out), below_then hbw hbB⟩
            case measure => simp [intOf]; omega
        · skip
          have cb170 := Joins.cell_of_block b17 0
          have cb171 := Joins.cell_of_block b17 1
          have zb17 := size_of_block b17
          go_wp2_with fail
          all_goals (try (exfalso; omega))
          clear cb170 cb171 zb17
          go_roundw
          case rel => exact ⟨i + 1, f, l, by omega, by rw [HNL1.out], by rw [HNM1.out], rfl, rfl, by go_num, Lib.hid hFL.out.same, below_then hbw hbB⟩
          case measure => simp [intOf]; omega
    · obtain rfl : i = k.ls.length := by omega
      have he1 := HE1.out
      have he2 := HE2.out
      obtain ⟨S1, e1⟩ : ∃ z, z = sumTo LT k.ls.length := ⟨_, rfl⟩
      obtain ⟨S2, e2⟩ : ∃ z, z = sumTo MT k.ls.length := ⟨_, rfl⟩
      rw [← e1] at he1
      rw [← e2] at he2
      rw [← e1, ← e2]
      clear e1 e2 hS1 hS2
      have hfl := hFL.out.rng
      go_wp2_with fail
      have BK2 := Lib.hid bk
      have BD2 := Lib.hid bd
      have B62 := Lib.hid b6
      have HO12 := Lib.hid hO1
      have HO22 := Lib.hid hO2
      have HB2 := Lib.hid hB
      clear bk bd b6 hO1 hO2 hB hbw HB0 HO1' HO2' BK' BD' B6'
      obtain ⟨wo, rfl⟩ : ∃ wo : World, wo = wr := ⟨_, rfl⟩
      go_loopw [19] (fun n9 wX => ∃ m : Int, f ≤ m ∧ n9 = .int .i64 m ∧ Below wo.heap.size wo wX) (fun n9 _ => (l - intOf n9).toNat)
      case atStart => exact ⟨f, Int.le_refl _, rfl, Below.refl _ _⟩
      case round =>
        obtain ⟨m, hm, rfl, hbw⟩ := hrel
        have bk := (hbw.block _ (size_of_block BK2.out)).trans BK2.out
        have bd := (hbw.block _ (size_of_block BD2.out)).trans BD2.out
        have b6 := (hbw.block _ (size_of_block B62.out)).trans B62.out
        have hO1 := own_later HO12.out hbw
        have hO2 := own_later HO22.out hbw
        have hB := below_then HB2.out hbw
        by_cases hml : m < l
        · obtain ⟨p, q, i, rfl, hpi, hiq, hql, hp0, hq0⟩ := hFL.out.between hm hml
          have hil : i < k.ls.length := by omega
          have hbB := Below.refl wr.heap.size wr
          have hkW := HK.out.later hB
          obtain ⟨al, ad, aw, e9, hl, hd, _⟩ := hkW
          obtain ⟨rfl, rfl, rfl⟩ : .slice A1 k.ls.length c1 = al ∧ .slice (some ⟨db, doo, none⟩) k.ds.length c2 = ad ∧ .slice A3 k.ws.length c3 = aw := by simpa using e9
          obtain ⟨A', c', e8, _, hln, hat⟩ := hl.open_
          obtain ⟨rfl, rfl⟩ : A1 = A' ∧ c1 = c' := by simpa using e8
          obtain ⟨sb, so, x, rfl, hsb, hx, x0, -, -, -⟩ := hat i hil
          clear hat hl hd e8 e9
          have yT := fun W h => HW2.out i x hx (.agg #[.int .i64 k.room, .int .i64 k.per, .slice (some ⟨sb, so, none⟩) k.ls.length c1, .slice (some ⟨db, doo, none⟩) k.ds.length c2, .slice A3 k.ws.length c3]) W h
          have h1 := HS1.out i x hx
          have h2 := HBT.out p i q hpi hiq (by omega) hp0 hq0
          obtain ⟨XA, e1⟩ : ∃ z, z = -(dst (tiesL k) ((i : Int) + 1) i) := ⟨_, rfl⟩
          obtain ⟨XB, e2⟩ : ∃ z, z = dst (tiesL k) i ((i : Int) + 1) := ⟨_, rfl⟩
          rw [← e1] at yT h2
          rw [← e2] at yT
          have HTI := Lib.hid yT
          have H1 := Lib.hid h1
          have H2 := Lib.hid h2
          have HXX := Lib.hid hx
          clear yT h1 h2 e1 e2 hx
          go_wp2_with fail
          have szbk := size_of_block bk
          have szbd := size_of_block bd
          have szb6 := size_of_block b6
          have szB := hB.size
          have szhbB := hbB.size
          refine wp_region_looseM [3] [0, 1, 2, 4, 5, 6] (.one 7 .done) [11] [8, 9, 10] [12, 13] [some 20] [.cells #[.int .i64 0, .int .i64 0] 63] (by kernel_rfl) (by kernel_rfl) (by intro c a d v w h; cases d <;> exact h) (by intro c a d v w h; cases d <;> exact h) rfl (by intro r i hri; match r, hri with | 0, hri => cases hri; exact ⟨_, _, rfl, rfl, rfl, rfl, fun a u => by simp [execOp, go_sem, ptrV]⟩) ?_
          simp only [pick, List.filterMap_cons, List.filterMap_nil, List.getElem?_toArray, List.getElem?_cons_succ, List.getElem?_cons_zero]
          refine wpPure_step (.int .i64 i) rfl (fun u => by first | rfl | kernel_rfl | simp [execOp, go_sem]) ?_
          intro u301 hu301
          replace bk := (hu301.block _ (size_of_block bk)).trans bk
          replace bd := (hu301.block _ (size_of_block bd)).trans bd
          replace b6 := (hu301.block _ (size_of_block b6)).trans b6
          replace hO1 := own_later hO1 hu301
          replace hO2 := own_later hO2 hu301
          replace hbB := below_then hbB hu301
          replace x0 := (hu301.cell (p := ⟨sb, so + i * 4, none⟩) hsb).trans x0
          replace hsb := Nat.lt_of_lt_of_le hsb hu301.size
          replace hB := below_then hB hu301
          have cbk0 := Joins.cell_of_block bk 0
          have cbk1 := Joins.cell_of_block bk 1
          have cbk2 := Joins.cell_of_block bk 2
          have cbk3 := Joins.cell_of_block bk 3
          have cbk4 := Joins.cell_of_block bk 4
          have zbk := size_of_block bk
          have hcg : ∀ (g : Gr u301) b o, b < u301.heap.size → g.val.cell? ⟨b, o, none⟩ = u301.cell? ⟨b, o, none⟩ := fun g b o h => (bcell g.b).1 b o h
          iterate 6 (first | (refine wpRel_step (fun K hK => ?_); go_simp; refine hK _ ?_; clear hK K))
          refine wpRel_nil fun V301_0 hb301 => ?_
          clear hcg cbk0 cbk1 cbk2 cbk3 cbk4 zbk
          replace bk := (hb301.block _ (size_of_block bk)).trans bk
          replace bd := (hb301.block _ (size_of_block bd)).trans bd
          replace b6 := (hb301.block _ (size_of_block b6)).trans b6
          replace hO1 := own_later hO1 hb301
          replace hO2 := own_later hO2 hb301
          replace hbB := below_then hbB hb301
          replace x0 := (hb301.cell (p := ⟨sb, so + i * 4, none⟩) hsb).trans x0
          replace hsb := Nat.lt_of_lt_of_le hsb hb301.size
          replace hB := below_then hB hb301
          clear hb301 hu301
          refine wpTr_step rfl rfl fun K hK => ?_
          go_simp
          refine (HTI.out V301_0 (HK.out.later hB)).mono ?_
          rintro e X ⟨rfl, hx⟩
          refine hK _ _ hx fun V301_1 hu => ?_
          clear hK K
          have hxu := below_then hx hu
          replace bk := (hxu.block _ (size_of_block bk)).trans bk
          replace bd := (hxu.block _ (size_of_block bd)).trans bd
          replace b6 := (hxu.block _ (size_of_block b6)).trans b6
          replace hO1 := own_later hO1 hxu
          replace hO2 := own_later hO2 hxu
          replace hbB := below_then hbB hxu
          replace x0 := (hxu.cell (p := ⟨sb, so + i * 4, none⟩) hsb).trans x0
          replace hsb := Nat.lt_of_lt_of_le hsb hxu.size
          replace hB := below_then hB hxu
          clear hx hu hxu
          show wpPure _ _ _ _
          refine wpPure_step (.tuple #[.agg #[.int .i64 XA, .int .i64 XB], .int .i64 0]) rfl (fun u => by first | rfl | simp [execOp, go_sem]) ?_
          refine wpPure_step (.agg #[.int .i64 XA, .int .i64 XB]) rfl (fun u => by first | rfl | simp [execOp, go_sem]) ?_
          refine wpPure_step (.int .i64 0) rfl (fun u => by first | rfl | simp [execOp, go_sem]) ?_
          intro ks hks hall hH
          obtain ⟨k1, rfl⟩ : ∃ k1, ks = [some k1] := by
            match ks, hks with
            | [none], _ => exact absurd rfl (hall 0)
            | [some k1], _ => exact ⟨k1, rfl⟩
          obtain ⟨o1, ge1, lt1⟩ := hH.obj 0 k1 rfl
          rw [show ([Obj.cells #[.int .i64 0, .int .i64 0] 63])[0]? = some (.cells #[.int .i64 0, .int .i64 0] 63) from rfl] at o1
          clear hH hall hks
          show wpList _ _ _ _ _ _
          simp only [deco, ptrV]
          refine wpList_store_rowTo rfl 63 _ _ rfl rfl k1 #[.int .i64 XA, .int .i64 XB] rfl rfl 63 _ o1 (by kernel_rfl) (by first | rfl | kernel_rfl) (by first | rfl | kernel_rfl) ?_
          have b20 := setRow_heap V301_1 k1 _ #[.int .i64 XA, .int .i64 XB] _ _ o1
          have HS := below_setRow (Below.refl k1 V301_1) (Nat.le_refl _) #[.int .i64 XA, .int .i64 XB]
          replace bk := (setRow_other _ _ _ #[.int .i64 XA, .int .i64 XB] (show _ ≠ k1 by omega)).trans bk
          replace bd := (setRow_other _ _ _ #[.int .i64 XA, .int .i64 XB] (show _ ≠ k1 by omega)).trans bd
          replace b6 := (setRow_other _ _ _ #[.int .i64 XA, .int .i64 XB] (show _ ≠ k1 by omega)).trans b6
          replace hO1 := own_setRowX hO1 o1 (by decide) #[.int .i64 XA, .int .i64 XB]
          replace hO2 := own_setRowX hO2 o1 (by decide) #[.int .i64 XA, .int .i64 XB]
          replace hB := below_setRow hB (show w.heap.size ≤ k1 by omega) #[.int .i64 XA, .int .i64 XB]
          replace hbB := below_setRow hbB (by omega) #[.int .i64 XA, .int .i64 XB]
          clear HS o1 ge1 lt1 szbk szbd szb6 szB szhbB
          generalize V301_1.setRow k1 #[.int .i64 XA, .int .i64 XB] = w302 at b20 hB bk bd b6 hO1 hO2 hbB ⊢
          by_cases hxa : 0 < XA
          · clear x0 hsb
            have hkW := HK.out.later hB
            obtain ⟨al, ad, aw, e9, hl, hd, _⟩ := hkW
            obtain ⟨rfl, rfl, rfl⟩ : .slice (some ⟨sb, so, none⟩) k.ls.length c1 = al ∧ .slice (some ⟨db, doo, none⟩) k.ds.length c2 = ad ∧ .slice A3 k.ws.length c3 = aw := by simpa using e9
            obtain ⟨A', c', e8, _, hln2, hat⟩ := hl.open_
            obtain ⟨rfl, rfl⟩ : ((some ⟨sb, so, none⟩) : Option Addr) = A' ∧ c1 = c' := by simpa using e8
            obtain ⟨sb', so', x', hAA, hsb, hx', x0, -, -, -⟩ := hat i hil
            obtain ⟨rfl, rfl⟩ : sb = sb' ∧ so = so' := by simpa using hAA
            obtain rfl : x = x' := by rw [HXX.out] at hx'; simpa using hx'
            clear hat hl hd e8 e9 hln2 hx' hAA
            have cb200 := Joins.cell_of_block b20 0
            have cb201 := Joins.cell_of_block b20 1
            have zb20 := size_of_block b20
            have cbk0 := Joins.cell_of_block bk 0
            have cbk1 := Joins.cell_of_block bk 1
            have cbk2 := Joins.cell_of_block bk 2
            have cbk3 := Joins.cell_of_block bk 3
            have cbk4 := Joins.cell_of_block bk 4
            have zbk := size_of_block bk
            go_wp2_with fail
            all_goals (try (exfalso; omega))
            clear cb200 cb201 zb20 cbk0 cbk1 cbk2 cbk3 cbk4 zbk
            clear x0 hsb
            refine (lhas_b _ SS x.id true w302 (Ints.of_own hO1 (by omega)) (by rw [H1.out]; exact decide_eq_true (H2.out hxa))).mono ?_
            rintro e w303 ⟨rfl, hF⟩
            replace bk := (hF.block _ (size_of_block bk)).trans bk
            replace bd := (hF.block _ (size_of_block bd)).trans bd
            replace b6 := (hF.block _ (size_of_block b6)).trans b6
            replace b20 := (hF.block _ (size_of_block b20)).trans b20
            replace hO1 := own_later hO1 hF
            replace hO2 := own_later hO2 hF
            replace hbB := below_then hbB hF
            replace hB := below_then hB hF
            clear hF
            go_wp2_with fail
            go_roundw
            case rel => exact ⟨(i : Int) + 1, by omega, by go_num, below_then hbw hbB⟩
            case measure => simp [intOf]; omega
          · clear x0 hsb
            have hkW := HK.out.later hB
            obtain ⟨al, ad, aw, e9, hl, hd, _⟩ := hkW
            obtain ⟨rfl, rfl, rfl⟩ : .slice (some ⟨sb, so, none⟩) k.ls.length c1 = al ∧ .slice (some ⟨db, doo, none⟩) k.ds.length c2 = ad ∧ .slice A3 k.ws.length c3 = aw := by simpa using e9
            obtain ⟨A', c', e8, _, hln2, hat⟩ := hl.open_
            obtain ⟨rfl, rfl⟩ : ((some ⟨sb, so, none⟩) : Option Addr) = A' ∧ c1 = c' := by simpa using e8
            obtain ⟨sb', so', x', hAA, hsb, hx', x0, -, -, -⟩ := hat i hil
            obtain ⟨rfl, rfl⟩ : sb = sb' ∧ so = so' := by simpa using hAA
            obtain rfl : x = x' := by rw [HXX.out] at hx'; simpa using hx'
            clear hat hl hd e8 e9 hln2 hx' hAA
            have cb200 := Joins.cell_of_block b20 0
            have cb201 := Joins.cell_of_block b20 1
            have zb20 := size_of_block b20
            have cbk0 := Joins.cell_of_block bk 0
            have cbk1 := Joins.cell_of_block bk 1
            have cbk2 := Joins.cell_of_block bk 2
            have cbk3 := Joins.cell_of_block bk 3
            have cbk4 := Joins.cell_of_block bk 4
            have zbk := size_of_block bk
            go_wp2_with fail
            all_goals (try (exfalso; omega))
            go_roundw
            case rel => exact ⟨(i : Int) + 1, by omega, by go_num, below_then hbw hbB⟩
            case measure => simp [intOf]; omega
        · go_wp2_with fail
          all_goals (try (exfalso; omega))
          refine (sanity_c _).mono ?_
          rintro e w301 ⟨rfl, hF⟩
          replace bk := (hF.block _ (size_of_block bk)).trans bk
          replace bd := (hF.block _ (size_of_block bd)).trans bd
          replace b6 := (hF.block _ (size_of_block b6)).trans b6
          replace hO1 := own_later hO1 hF
          replace hO2 := own_later hO2 hF
          replace hB := below_then hB hF
          clear hF
          have cb60 := Joins.cell_of_block b6 0
          have cb61 := Joins.cell_of_block b6 1
          have zb6 := size_of_block b6
          go_wp2_with fail
          all_goals (try (exfalso; omega))
          go_ret
          exact ⟨rfl, hB⟩
theorem ShaftShares_w (rm pr : Int) (A1 : Option Addr) (n1 c1 : Nat) (A2 : Option Addr) (n2 c2 : Nat) (A3 : Option Addr) (n3 c3 : Nat) (b : Nat) (w : World)
    (hk : (∃ k : Kl, k.room = rm ∧ k.per = pr ∧ k.ls.length = n1 ∧ k.ds.length = n2 ∧ k.ws.length = n3 ∧ Kiln w (.agg #[.int .i64 rm, .int .i64 pr, .slice A1 n1 c1, .slice A2 n2 c2, .slice A3 n3 c3]) k) ∨ 140737488355328 < n1 ∨ 140737488355328 < n2 ∨ 140737488355328 < n3) (hb : b ≤ 255) :
    Calls Tryz.prog 14 #[.agg #[.int .i64 rm, .int .i64 pr, .slice A1 n1 c1, .slice A2 n2 c2, .slice A3 n3 c3], .int .u8 b] w fun e w' => e = .returned (.bool true) ∧ Below w.heap.size w w' := by
  by_cases h : 4 < n1 ∨ 4 < n2 ∨ 4 < n3 ∨ n2 = 0
  · exact SSh_no rm pr A1 n1 c1 A2 n2 c2 A3 n3 c3 b w h
  · rcases hk with ⟨k, rfl, rfl, rfl, rfl, rfl, hk⟩ | hk
    · have hj : b % k.ds.length < k.ds.length := Nat.mod_lt _ (by omega)
      obtain ⟨y, hy⟩ : ∃ y, k.ds[b % k.ds.length]? = some y := ⟨_, List.getElem?_eq_getElem hj⟩
      by_cases hc : checkI k = 0
      · by_cases hcan : canB (tiesL k) = true
        · exact SSh_ok k A1 A2 A3 c1 c2 c3 b w hk hb (by omega) (by omega) (by omega) (by omega) _ y rfl hy hc hcan
        · have hw : weightE k y.id = ((0, 0), 9) := by rw [weight_draw hc hy, betw_no (fun h => hcan (canB_true.2 h))]
          exact SSh_err k A1 A2 A3 c1 c2 c3 b w hk hb (by omega) (by omega) (by omega) (by omega) _ y rfl hy (by rw [hw]; decide) (by rw [hw, source_ok hc hy, if_neg hcan])
      · have hw : weightE k y.id = ((0, 0), checkI k) := by unfold weightE runE; rw [if_pos hc]
        exact SSh_err k A1 A2 A3 c1 c2 c3 b w hk hb (by omega) (by omega) (by omega) (by omega) _ y rfl hy (by rw [hw]; exact hc) (by rw [hw]; unfold sourceE pairE; rw [if_pos hc, if_pos hc])
    · omega
end Go.Proofs.YtnedcclmfokdnaaGreat
