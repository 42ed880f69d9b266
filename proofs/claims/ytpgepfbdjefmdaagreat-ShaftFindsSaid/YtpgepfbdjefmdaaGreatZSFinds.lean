/- ShaftFinds: the walk (written by tools/gensfindsl.py). -/
import Derived.Test.YtpgepfbdjefmdaaGreatJ27
import Derived.Test.YtpgepfbdjefmdaaGreatZSRefK
import Derived.Test.YtpgepfbdjefmdaaGreatZWR
import Derived.Test.YtpgepfbdjefmdaaGreatZSChkClashE
namespace Go.Proofs.YtpgepfbdjefmdaaGreat
open Go Go.RowKit Go.Shelf
attribute [local go_sem] Oper.semAt_some Rel RelAt RelUpon

theorem Tryz.fieldKept1 (a b c : Value) (w : World) : (Instr.field 42 (.agg #[a, b, c]) 1).run Tryz.prog w = .ok b w := by kernel_rfl
theorem Find_no (k : Kl) (v : Value) (w : World) (hv : Kiln w v k) (h : findE k ≠ 0) : Calls Tryz.prog 25 #[v] w fun e w' => ∃ F1 f1 F2 f2, e = .returned (.tuple #[.agg #[.slice F1 0 f1, .slice F2 0 f2], .int .i64 (findE k)]) ∧ Below w.heap.size w w' := by
  refine (Find_c k v w hv).mono ?_
  rintro e w' ⟨u, tl, td, rfl, ho, _, h2, hb⟩
  obtain ⟨rfl, rfl⟩ := h2 h
  obtain ⟨A, c, A2, c2, rfl⟩ := ho.form
  exact ⟨A, c, A2, c2, rfl, hb⟩
theorem Find_ok (k : Kl) (v : Value) (w : World) (hv : Kiln w v k) (h : findE k = 0) : Calls Tryz.prog 25 #[v] w fun e w' => ∃ F1 f1 F2 f2 tl td, e = .returned (.tuple #[.agg #[.slice F1 (tl : List Int).length f1, .slice F2 (td : List Int).length f2], .int .i64 0]) ∧
    (w'.ownsRow w.heap.size 3 1 (.slice F1 tl.length f1) tl.length (tl.map (Value.int .i64)) ∧ w'.ownsRow w.heap.size 3 1 (.slice F2 td.length f2) td.length (td.map (Value.int .i64)) ∧ True_ k tl td) ∧ Below w.heap.size w w' := by
  refine (Find_c k v w hv).mono ?_
  rintro e w' ⟨u, tl, td, rfl, ho, h1, _, hb⟩
  obtain ⟨A, c, A2, c2, rfl⟩ := ho.form
  obtain ⟨a, b, e9, h3, h4⟩ := ho
  obtain ⟨rfl, rfl⟩ : .slice A tl.length c = a ∧ .slice A2 td.length c2 = b := by simpa using e9
  exact ⟨A, c, A2, c2, tl, td, by rw [h], ⟨h3, h4, h1 h⟩, hb⟩
theorem Clash_no (k : Kl) (v : Value) (w : World) (hv : Kiln w v k) (h : clashB k = false) : Calls Tryz.prog 26 #[v] w fun e w' => ∃ U1 u1, e = .returned (.tuple #[.slice U1 0 u1, .bool false, .int .i64 (checkI k)]) ∧ Below w.heap.size w w' := by
  refine (Clash_c k v w hv).mono ?_
  rintro e w' ⟨u, p, rfl, ho, _, h2, hb⟩
  obtain rfl := h2 h
  obtain ⟨A, c, rfl⟩ := own_form ho
  exact ⟨A, c, by rw [h]; rfl, hb⟩
theorem Clash_yes (k : Kl) (v : Value) (w : World) (hv : Kiln w v k) (h : clashB k = true) : Calls Tryz.prog 26 #[v] w fun e w' => ∃ U1 u1 p, e = .returned (.tuple #[.slice U1 (p : List Int).length u1, .bool true, .int .i64 (checkI k)]) ∧
    (w'.ownsRow w.heap.size 3 1 (.slice U1 p.length u1) p.length (p.map (Value.int .i64)) ∧ clashI k p = 0 ∧ p.length ≤ 41) ∧ Below w.heap.size w w' := by
  refine (Clash_c k v w hv).mono ?_
  rintro e w' ⟨u, p, rfl, ho, h1, _, hb⟩
  obtain ⟨A, c, rfl⟩ := own_form ho
  exact ⟨A, c, p, by rw [h], ⟨ho, h1 h⟩, hb⟩
set_option maxRecDepth 100000 in
set_option maxHeartbeats 8000000 in
theorem SFinds_no (rm pr : Int) (A1 : Option Addr) (n1 c1 : Nat) (A2 : Option Addr) (n2 c2 : Nat) (A3 : Option Addr) (n3 c3 : Nat) (I0 : Option Addr) (l5 e5 : Nat) (w : World) (h : fewB3 n1 n2 n3 = false) : Calls Tryz.prog 4 #[.agg #[.int .i64 rm, .int .i64 pr, .slice A1 n1 c1, .slice A2 n2 c2, .slice A3 n3 c3], .slice I0 l5 e5] w fun e w' => e = .returned (.bool true) ∧ Below w.heap.size w w' := by
  go_enter Tryz.func4, Tryz.ntmps4
  have bk := heap_alloc_new w (.cells #[.int .i64 rm, .int .i64 pr, .slice A1 n1 c1, .slice A2 n2 c2, .slice A3 n3 c3] 26)
  have HB := below_alloc w (.cells #[.int .i64 rm, .int .i64 pr, .slice A1 n1 c1, .slice A2 n2 c2, .slice A3 n3 c3] 26)
  have cbk0 := Joins.cell_of_block bk 0
  have cbk1 := Joins.cell_of_block bk 1
  have cbk2 := Joins.cell_of_block bk 2
  have cbk3 := Joins.cell_of_block bk 3
  have cbk4 := Joins.cell_of_block bk 4
  have zbk := size_of_block bk
  go_wp2_with fail
  generalize (w.alloc (.cells #[.int .i64 rm, .int .i64 pr, .slice A1 n1 c1, .slice A2 n2 c2, .slice A3 n3 c3] 26)) = w1 at bk HB cbk0 cbk1 cbk2 cbk3 cbk4 zbk ⊢
  have hB := HB
  clear HB
  refine (lfew_c rm pr A1 A2 A3 n1 c1 n2 c2 n3 c3 _).mono ?_
  rintro e w2 ⟨rfl, hF⟩
  clear cbk0 cbk1 cbk2 cbk3 cbk4 zbk
  replace bk := (hF.block _ (size_of_block bk)).trans bk
  replace hB := below_then hB hF
  clear hF
  rw [h]
  go_wp2_with fail
  refine (sanity_c _).mono ?_
  rintro e w3 ⟨rfl, hF⟩
  replace bk := (hF.block _ (size_of_block bk)).trans bk
  replace hB := below_then hB hF
  clear hF
  go_wp2_with fail
  go_ret
  exact ⟨rfl, hB⟩
set_option maxRecDepth 100000 in
set_option maxHeartbeats 8000000 in
theorem SFinds_long (k : Kl) (A1 A2 A3 : Option Addr) (c1 c2 c3 : Nat) (I0 : Option Addr) (l5 e5 : Nat) (w : World) (hk : Kiln w (.agg #[.int .i64 k.room, .int .i64 k.per, .slice A1 k.ls.length c1, .slice A2 k.ds.length c2, .slice A3 k.ws.length c3]) k) (hf : fewB3 k.ls.length k.ds.length k.ws.length = true) (g0 : 250 < l5) : Calls Tryz.prog 4 #[.agg #[.int .i64 k.room, .int .i64 k.per, .slice A1 k.ls.length c1, .slice A2 k.ds.length c2, .slice A3 k.ws.length c3], .slice I0 l5 e5] w fun e w' => e = .returned (.bool true) ∧ Below w.heap.size w w' := by
  have d0 : decide ((l5 : Int) > 250) = true := decide_eq_true (by omega)
  have HK := Lib.hid hk
  clear hk
  have hfk := Tryz.fieldKept1
  go_enter Tryz.func4, Tryz.ntmps4
  have bk := heap_alloc_new w (.cells #[.int .i64 k.room, .int .i64 k.per, .slice A1 k.ls.length c1, .slice A2 k.ds.length c2, .slice A3 k.ws.length c3] 26)
  have HB := below_alloc w (.cells #[.int .i64 k.room, .int .i64 k.per, .slice A1 k.ls.length c1, .slice A2 k.ds.length c2, .slice A3 k.ws.length c3] 26)
  have cbk0 := Joins.cell_of_block bk 0
  have cbk1 := Joins.cell_of_block bk 1
  have cbk2 := Joins.cell_of_block bk 2
  have cbk3 := Joins.cell_of_block bk 3
  have cbk4 := Joins.cell_of_block bk 4
  have zbk := size_of_block bk
  go_wp2_with fail
  generalize (w.alloc (.cells #[.int .i64 k.room, .int .i64 k.per, .slice A1 k.ls.length c1, .slice A2 k.ds.length c2, .slice A3 k.ws.length c3] 26)) = w1 at bk HB cbk0 cbk1 cbk2 cbk3 cbk4 zbk ⊢
  have hB := HB
  clear HB
  refine (lfew_c k.room k.per A1 A2 A3 k.ls.length c1 k.ds.length c2 k.ws.length c3 _).mono ?_
  rintro e w2 ⟨rfl, hF⟩
  clear cbk0 cbk1 cbk2 cbk3 cbk4 zbk
  replace bk := (hF.block _ (size_of_block bk)).trans bk
  replace hB := below_then hB hF
  clear hF
  rw [hf]
  go_wp2_with fail
  all_goals (try (exfalso; omega))
  refine (sanity_c _).mono ?_
  rintro e w3 ⟨rfl, hF⟩
  replace bk := (hF.block _ (size_of_block bk)).trans bk
  replace hB := below_then hB hF
  clear hF
  go_wp2_with fail
  go_ret
  exact ⟨rfl, hB⟩
set_option maxRecDepth 100000 in
set_option maxHeartbeats 8000000 in
theorem SFinds_bad (k : Kl) (A1 A2 A3 : Option Addr) (c1 c2 c3 : Nat) (I0 : Option Addr) (l5 e5 : Nat) (w : World) (hk : Kiln w (.agg #[.int .i64 k.room, .int .i64 k.per, .slice A1 k.ls.length c1, .slice A2 k.ds.length c2, .slice A3 k.ws.length c3]) k) (hf : fewB3 k.ls.length k.ds.length k.ws.length = true) (g0 : l5 ≤ 250) (li : List Int) (hi : Ints w w.heap.size (.slice I0 l5 e5) li) (hc : checkI k ≠ 0) : Calls Tryz.prog 4 #[.agg #[.int .i64 k.room, .int .i64 k.per, .slice A1 k.ls.length c1, .slice A2 k.ds.length c2, .slice A3 k.ws.length c3], .slice I0 l5 e5] w fun e w' => e = .returned (.bool true) ∧ Below w.heap.size w w' := by
  obtain ⟨CI, hCI⟩ : ∃ x, x = clashI k li := ⟨_, rfl⟩
  have yK := fun W h hi => CheckClash_c k (.agg #[.int .i64 k.room, .int .i64 k.per, .slice A1 k.ls.length c1, .slice A2 k.ds.length c2, .slice A3 k.ws.length c3]) (.slice I0 l5 e5) li W h hi
  have yR := fun W h hi => rclash_c k (.agg #[.int .i64 k.room, .int .i64 k.per, .slice A1 k.ls.length c1, .slice A2 k.ds.length c2, .slice A3 k.ws.length c3]) (.slice I0 l5 e5) li W h hi
  rw [← hCI] at yK yR
  have HKK := Lib.hid yK
  have HRR := Lib.hid yR
  clear yK yR hCI
  have HI9 := Lib.hid hi
  clear hi
  have d9 : decide ((l5 : Int) > 250) = false := decide_eq_false (by omega)
  have yC := fun W h => rcheck_c k (.agg #[.int .i64 k.room, .int .i64 k.per, .slice A1 k.ls.length c1, .slice A2 k.ds.length c2, .slice A3 k.ws.length c3]) W h
  have hfe : findE k = checkI k := by unfold findE; rw [if_pos hc]
  have hcl : clashB k = false := by unfold clashB; simp [hc]
  have yF := fun W h => Find_no k (.agg #[.int .i64 k.room, .int .i64 k.per, .slice A1 k.ls.length c1, .slice A2 k.ds.length c2, .slice A3 k.ws.length c3]) W h (by rw [hfe]; exact hc)
  have yU := fun W h => Clash_no k (.agg #[.int .i64 k.room, .int .i64 k.per, .slice A1 k.ls.length c1, .slice A2 k.ds.length c2, .slice A3 k.ws.length c3]) W h hcl
  rw [hfe] at yF
  obtain ⟨CE, hCE⟩ : ∃ x, x = checkI k := ⟨_, rfl⟩
  rw [← hCE] at yF yU yC hc
  have d0 : (CE != 0) = true := by simpa using hc
  clear hfe hcl hCE hc
  have HF := Lib.hid yF
  clear yF
  have HU := Lib.hid yU
  clear yU
  have HC := Lib.hid yC
  clear yC
  have HK := Lib.hid hk
  clear hk
  have hfk := Tryz.fieldKept1
  go_enter Tryz.func4, Tryz.ntmps4
  have bk := heap_alloc_new w (.cells #[.int .i64 k.room, .int .i64 k.per, .slice A1 k.ls.length c1, .slice A2 k.ds.length c2, .slice A3 k.ws.length c3] 26)
  have HB := below_alloc w (.cells #[.int .i64 k.room, .int .i64 k.per, .slice A1 k.ls.length c1, .slice A2 k.ds.length c2, .slice A3 k.ws.length c3] 26)
  have cbk0 := Joins.cell_of_block bk 0
  have cbk1 := Joins.cell_of_block bk 1
  have cbk2 := Joins.cell_of_block bk 2
  have cbk3 := Joins.cell_of_block bk 3
  have cbk4 := Joins.cell_of_block bk 4
  have zbk := size_of_block bk
  go_wp2_with fail
  generalize (w.alloc (.cells #[.int .i64 k.room, .int .i64 k.per, .slice A1 k.ls.length c1, .slice A2 k.ds.length c2, .slice A3 k.ws.length c3] 26)) = w1 at bk HB cbk0 cbk1 cbk2 cbk3 cbk4 zbk ⊢
  have hB := HB
  clear HB
  refine (lfew_c k.room k.per A1 A2 A3 k.ls.length c1 k.ds.length c2 k.ws.length c3 _).mono ?_
  rintro e w2 ⟨rfl, hF⟩
  clear cbk0 cbk1 cbk2 cbk3 cbk4 zbk
  replace bk := (hF.block _ (size_of_block bk)).trans bk
  replace hB := below_then hB hF
  clear hF
  rw [hf]
  have cbk0 := Joins.cell_of_block bk 0
  have cbk1 := Joins.cell_of_block bk 1
  have cbk2 := Joins.cell_of_block bk 2
  have cbk3 := Joins.cell_of_block bk 3
  have cbk4 := Joins.cell_of_block bk 4
  have zbk := size_of_block bk
  go_wp2_with fail
  all_goals (try (exfalso; omega))
  refine (HF.out w2 (HK.out.later hB)).mono ?_
  rintro e w3 ⟨F1, f1, F2, f2, rfl, hF⟩
  clear cbk0 cbk1 cbk2 cbk3 cbk4 zbk
  replace bk := (hF.block _ (size_of_block bk)).trans bk
  replace hB := below_then hB hF
  clear hF
  have b5 := heap_alloc_new w3 (.cells #[.slice F1 0 f1, .slice F2 0 f2] 29)
  have HB := below_alloc w3 (.cells #[.slice F1 0 f1, .slice F2 0 f2] 29)
  have cbk0 := Joins.cell_of_block ((HB.block _ (size_of_block bk)).trans bk) 0
  have cbk1 := Joins.cell_of_block ((HB.block _ (size_of_block bk)).trans bk) 1
  have cbk2 := Joins.cell_of_block ((HB.block _ (size_of_block bk)).trans bk) 2
  have cbk3 := Joins.cell_of_block ((HB.block _ (size_of_block bk)).trans bk) 3
  have cbk4 := Joins.cell_of_block ((HB.block _ (size_of_block bk)).trans bk) 4
  have zbk := size_of_block bk
  go_wp2_with fail
  generalize (w3.alloc (.cells #[.slice F1 0 f1, .slice F2 0 f2] 29)) = w4 at b5 HB cbk0 cbk1 cbk2 cbk3 cbk4 ⊢
  replace bk := (HB.block _ (size_of_block bk)).trans bk
  replace hB := below_then hB HB
  clear HB
  refine (HU.out w4 (HK.out.later hB)).mono ?_
  rintro e w5 ⟨U1, u1, rfl, hF⟩
  clear cbk0 cbk1 cbk2 cbk3 cbk4 zbk
  replace bk := (hF.block _ (size_of_block bk)).trans bk
  replace b5 := (hF.block _ (size_of_block b5)).trans b5
  replace hB := below_then hB hF
  clear hF
  have cbk0 := Joins.cell_of_block bk 0
  have cbk1 := Joins.cell_of_block bk 1
  have cbk2 := Joins.cell_of_block bk 2
  have cbk3 := Joins.cell_of_block bk 3
  have cbk4 := Joins.cell_of_block bk 4
  have zbk := size_of_block bk
  go_wp2_with fail
  refine (HC.out w5 (HK.out.later hB)).mono ?_
  rintro e w6 ⟨rfl, hF⟩
  clear cbk0 cbk1 cbk2 cbk3 cbk4 zbk
  replace bk := (hF.block _ (size_of_block bk)).trans bk
  replace b5 := (hF.block _ (size_of_block b5)).trans b5
  replace hB := below_then hB hF
  clear hF
  go_wp2_with fail
  refine wp_region_planW [.f [0, 1, 3, 4], .s 2, .s 5, .f [6, 7, 8, 9, 10, 11]] [] (by kernel_rfl) (by kernel_rfl) (by intro c a d v w h; cases d <;> exact h) ?_
  intro p7_0 hu
  replace bk := (hu.block _ (size_of_block bk)).trans bk
  replace b5 := (hu.block _ (size_of_block b5)).trans b5
  replace hB := below_then hB hu
  clear hu
  refine wpPlanW_r ?_
  simp only [pick, List.filterMap_cons, List.filterMap_nil, List.getElem?_toArray, List.getElem?_cons_succ, List.getElem?_cons_zero]
  have cbk0 := Joins.cell_of_block bk 0
  have cbk1 := Joins.cell_of_block bk 1
  have cbk2 := Joins.cell_of_block bk 2
  have cbk3 := Joins.cell_of_block bk 3
  have cbk4 := Joins.cell_of_block bk 4
  have zbk := size_of_block bk
  have hcg : ∀ (g : Gr p7_0) b o, b < p7_0.heap.size → g.val.cell? ⟨b, o, none⟩ = p7_0.cell? ⟨b, o, none⟩ := fun g b o h => (bcell g.b).1 b o h
  refine WR.step (by kernel_rfl) (fun K hK => ?_); go_simp; refine hK _ ?_; clear hK K
  refine WR.step (by kernel_rfl) (fun K hK => ?_); go_simp; refine hK _ ?_; clear hK K
  refine WR.step (by kernel_rfl) (fun K hK => ?_); go_simp; refine hK _ ?_; clear hK K
  refine WR.step (by kernel_rfl) (fun K hK => ?_); go_simp; refine hK _ ?_; clear hK K
  go_simp
  refine WR.nil fun p7_1 hb => ?_
  clear hcg cbk0 cbk1 cbk2 cbk3 cbk4 zbk
  replace bk := (hb.block _ (size_of_block bk)).trans bk
  replace b5 := (hb.block _ (size_of_block b5)).trans b5
  replace hB := below_then hB hb
  clear hb
  refine wpPlanW_call rfl (by kernel_rfl) fun K hK => ?_
  go_simp
  refine (HKK.out p7_1 (HK.out.later hB) (HI9.out.later hB)).mono ?_
  rintro e X ⟨rfl, hxx⟩
  refine hK _ _ hxx fun p7_2 hu => ?_
  clear hK K
  have hv := below_then hxx hu
  replace bk := (hv.block _ (size_of_block bk)).trans bk
  replace b5 := (hv.block _ (size_of_block b5)).trans b5
  replace hB := below_then hB hv
  clear hxx hu hv
  refine wpPlanW_call rfl (by kernel_rfl) fun K hK => ?_
  go_simp
  refine (HRR.out p7_2 (HK.out.later hB) (HI9.out.later hB)).mono ?_
  rintro e X ⟨rfl, hxx⟩
  refine hK _ _ hxx fun p7_3 hu => ?_
  clear hK K
  have hv := below_then hxx hu
  replace bk := (hv.block _ (size_of_block bk)).trans bk
  replace b5 := (hv.block _ (size_of_block b5)).trans b5
  replace hB := below_then hB hv
  clear hxx hu hv
  refine wpPlanW_r ?_
  simp only [pick, List.filterMap_cons, List.filterMap_nil, List.getElem?_toArray, List.getElem?_cons_succ, List.getElem?_cons_zero]
  have hcg : ∀ (g : Gr p7_3) b o, b < p7_3.heap.size → g.val.cell? ⟨b, o, none⟩ = p7_3.cell? ⟨b, o, none⟩ := fun g b o h => (bcell g.b).1 b o h
  refine WR.val (.bool false) (by kernel_rfl) (by intro g; first | (simp [execOp, go_sem]; done) | kernel_rfl) ?_
  refine WR.val (.bool false) (by kernel_rfl) (by intro g; first | (simp [execOp, go_sem]; done) | kernel_rfl) ?_
  refine WR.step (by kernel_rfl) (fun K hK => ?_); go_simp; refine hK _ ?_; clear hK K
  refine WR.step (by kernel_rfl) (fun K hK => ?_); go_simp; refine hK _ ?_; clear hK K
  refine WR.val (.bool false) (by kernel_rfl) (by intro g; first | (simp [execOp, go_sem]; done) | kernel_rfl) ?_
  refine WR.val (.bool false) (by kernel_rfl) (by intro g; first | (simp [execOp, go_sem]; done) | kernel_rfl) ?_
  go_simp
  refine WR.nil fun p7_4 hb => ?_
  clear hcg 
  replace bk := (hb.block _ (size_of_block bk)).trans bk
  replace b5 := (hb.block _ (size_of_block b5)).trans b5
  replace hB := below_then hB hb
  clear hb
  refine wpPlanW_nil ?_
  show wpList _ _ _ _ _ _
  skip
  go_wp2_with fail
  refine (sanity_c _).mono ?_
  rintro e w8 ⟨rfl, hF⟩
  replace bk := (hF.block _ (size_of_block bk)).trans bk
  replace b5 := (hF.block _ (size_of_block b5)).trans b5
  replace hB := below_then hB hF
  clear hF
  have cb50 := Joins.cell_of_block b5 0
  have cb51 := Joins.cell_of_block b5 1
  have zb5 := size_of_block b5
  go_wp2_with fail
  go_ret
  exact ⟨rfl, hB⟩
set_option maxRecDepth 100000 in
set_option maxHeartbeats 8000000 in
theorem SFinds_cant (k : Kl) (A1 A2 A3 : Option Addr) (c1 c2 c3 : Nat) (I0 : Option Addr) (l5 e5 : Nat) (w : World) (hk : Kiln w (.agg #[.int .i64 k.room, .int .i64 k.per, .slice A1 k.ls.length c1, .slice A2 k.ds.length c2, .slice A3 k.ws.length c3]) k) (hf : fewB3 k.ls.length k.ds.length k.ws.length = true) (g0 : l5 ≤ 250) (li : List Int) (hi : Ints w w.heap.size (.slice I0 l5 e5) li) (hc : checkI k = 0) (hcan : ¬ canB (tiesL k) = true) : Calls Tryz.prog 4 #[.agg #[.int .i64 k.room, .int .i64 k.per, .slice A1 k.ls.length c1, .slice A2 k.ds.length c2, .slice A3 k.ws.length c3], .slice I0 l5 e5] w fun e w' => e = .returned (.bool true) ∧ Below w.heap.size w w' := by
  obtain ⟨CI, hCI⟩ : ∃ x, x = clashI k li := ⟨_, rfl⟩
  have yK := fun W h hi => CheckClash_c k (.agg #[.int .i64 k.room, .int .i64 k.per, .slice A1 k.ls.length c1, .slice A2 k.ds.length c2, .slice A3 k.ws.length c3]) (.slice I0 l5 e5) li W h hi
  have yR := fun W h hi => rclash_c k (.agg #[.int .i64 k.room, .int .i64 k.per, .slice A1 k.ls.length c1, .slice A2 k.ds.length c2, .slice A3 k.ws.length c3]) (.slice I0 l5 e5) li W h hi
  rw [← hCI] at yK yR
  have HKK := Lib.hid yK
  have HRR := Lib.hid yR
  clear yK yR hCI
  have HI9 := Lib.hid hi
  clear hi
  have d9 : decide ((l5 : Int) > 250) = false := decide_eq_false (by omega)
  have yC := fun W h => rcheck_c k (.agg #[.int .i64 k.room, .int .i64 k.per, .slice A1 k.ls.length c1, .slice A2 k.ds.length c2, .slice A3 k.ws.length c3]) W h
  have HR := Lib.hid (right_of_check hc)
  have hfe : findE k = 9 := by unfold findE; rw [if_neg (show ¬ checkI k ≠ 0 by simp [hc]), if_neg hcan]
  have hcl : clashB k = true := by unfold clashB; rw [hc]; simpa using hcan
  have yF := fun W h => Find_no k (.agg #[.int .i64 k.room, .int .i64 k.per, .slice A1 k.ls.length c1, .slice A2 k.ds.length c2, .slice A3 k.ws.length c3]) W h (by rw [hfe]; decide)
  have yU := fun W h => Clash_yes k (.agg #[.int .i64 k.room, .int .i64 k.per, .slice A1 k.ls.length c1, .slice A2 k.ds.length c2, .slice A3 k.ws.length c3]) W h hcl
  rw [hfe] at yF
  have hcb : canB (tiesL k) = false := by simpa using hcan
  rw [hc] at yU yC
  have yN := fun W h => rCan_c k (.agg #[.int .i64 k.room, .int .i64 k.per, .slice A1 k.ls.length c1, .slice A2 k.ds.length c2, .slice A3 k.ws.length c3]) W h HR.out
  rw [hcb] at yN
  have HN := Lib.hid yN
  clear hfe hcl hc yN hcb hcan
  have HF := Lib.hid yF
  clear yF
  have HU := Lib.hid yU
  clear yU
  have HC := Lib.hid yC
  clear yC
  have HK := Lib.hid hk
  clear hk
  have hfk := Tryz.fieldKept1
  go_enter Tryz.func4, Tryz.ntmps4
  have bk := heap_alloc_new w (.cells #[.int .i64 k.room, .int .i64 k.per, .slice A1 k.ls.length c1, .slice A2 k.ds.length c2, .slice A3 k.ws.length c3] 26)
  have HB := below_alloc w (.cells #[.int .i64 k.room, .int .i64 k.per, .slice A1 k.ls.length c1, .slice A2 k.ds.length c2, .slice A3 k.ws.length c3] 26)
  have cbk0 := Joins.cell_of_block bk 0
  have cbk1 := Joins.cell_of_block bk 1
  have cbk2 := Joins.cell_of_block bk 2
  have cbk3 := Joins.cell_of_block bk 3
  have cbk4 := Joins.cell_of_block bk 4
  have zbk := size_of_block bk
  go_wp2_with fail
  generalize (w.alloc (.cells #[.int .i64 k.room, .int .i64 k.per, .slice A1 k.ls.length c1, .slice A2 k.ds.length c2, .slice A3 k.ws.length c3] 26)) = w1 at bk HB cbk0 cbk1 cbk2 cbk3 cbk4 zbk ⊢
  have hB := HB
  clear HB
  refine (lfew_c k.room k.per A1 A2 A3 k.ls.length c1 k.ds.length c2 k.ws.length c3 _).mono ?_
  rintro e w2 ⟨rfl, hF⟩
  clear cbk0 cbk1 cbk2 cbk3 cbk4 zbk
  replace bk := (hF.block _ (size_of_block bk)).trans bk
  replace hB := below_then hB hF
  clear hF
  rw [hf]
  have cbk0 := Joins.cell_of_block bk 0
  have cbk1 := Joins.cell_of_block bk 1
  have cbk2 := Joins.cell_of_block bk 2
  have cbk3 := Joins.cell_of_block bk 3
  have cbk4 := Joins.cell_of_block bk 4
  have zbk := size_of_block bk
  go_wp2_with fail
  all_goals (try (exfalso; omega))
  refine (HF.out w2 (HK.out.later hB)).mono ?_
  rintro e w3 ⟨F1, f1, F2, f2, rfl, hF⟩
  clear cbk0 cbk1 cbk2 cbk3 cbk4 zbk
  replace bk := (hF.block _ (size_of_block bk)).trans bk
  replace hB := below_then hB hF
  clear hF
  have b5 := heap_alloc_new w3 (.cells #[.slice F1 0 f1, .slice F2 0 f2] 29)
  have HB := below_alloc w3 (.cells #[.slice F1 0 f1, .slice F2 0 f2] 29)
  have cbk0 := Joins.cell_of_block ((HB.block _ (size_of_block bk)).trans bk) 0
  have cbk1 := Joins.cell_of_block ((HB.block _ (size_of_block bk)).trans bk) 1
  have cbk2 := Joins.cell_of_block ((HB.block _ (size_of_block bk)).trans bk) 2
  have cbk3 := Joins.cell_of_block ((HB.block _ (size_of_block bk)).trans bk) 3
  have cbk4 := Joins.cell_of_block ((HB.block _ (size_of_block bk)).trans bk) 4
  have zbk := size_of_block bk
  go_wp2_with fail
  generalize (w3.alloc (.cells #[.slice F1 0 f1, .slice F2 0 f2] 29)) = w4 at b5 HB cbk0 cbk1 cbk2 cbk3 cbk4 ⊢
  replace bk := (HB.block _ (size_of_block bk)).trans bk
  replace hB := below_then hB HB
  clear HB
  refine (HU.out w4 (HK.out.later hB)).mono ?_
  rintro e w5 ⟨U1, u1, pp, rfl, ⟨hO1, hC1, hC2⟩, hF⟩
  clear cbk0 cbk1 cbk2 cbk3 cbk4 zbk
  replace bk := (hF.block _ (size_of_block bk)).trans bk
  replace b5 := (hF.block _ (size_of_block b5)).trans b5
  replace hB := below_then hB hF
  clear hF
  have HC1 := Lib.hid hC1
  have HC2 := Lib.hid hC2
  clear hC1 hC2
  have cbk0 := Joins.cell_of_block bk 0
  have cbk1 := Joins.cell_of_block bk 1
  have cbk2 := Joins.cell_of_block bk 2
  have cbk3 := Joins.cell_of_block bk 3
  have cbk4 := Joins.cell_of_block bk 4
  have zbk := size_of_block bk
  go_wp2_with fail
  refine (HC.out w5 (HK.out.later hB)).mono ?_
  rintro e w6 ⟨rfl, hF⟩
  clear cbk0 cbk1 cbk2 cbk3 cbk4 zbk
  replace bk := (hF.block _ (size_of_block bk)).trans bk
  replace b5 := (hF.block _ (size_of_block b5)).trans b5
  replace hO1 := own_later hO1 hF
  replace hB := below_then hB hF
  clear hF
  go_wp2_with fail
  refine wp_region_planW [.f [0, 1, 3, 4], .s 2, .s 5, .f [6, 7, 8, 9, 10, 11]] [] (by kernel_rfl) (by kernel_rfl) (by intro c a d v w h; cases d <;> exact h) ?_
  intro p7_0 hu
  replace bk := (hu.block _ (size_of_block bk)).trans bk
  replace b5 := (hu.block _ (size_of_block b5)).trans b5
  replace hO1 := own_later hO1 hu
  replace hB := below_then hB hu
  clear hu
  refine wpPlanW_r ?_
  simp only [pick, List.filterMap_cons, List.filterMap_nil, List.getElem?_toArray, List.getElem?_cons_succ, List.getElem?_cons_zero]
  have cbk0 := Joins.cell_of_block bk 0
  have cbk1 := Joins.cell_of_block bk 1
  have cbk2 := Joins.cell_of_block bk 2
  have cbk3 := Joins.cell_of_block bk 3
  have cbk4 := Joins.cell_of_block bk 4
  have zbk := size_of_block bk
  have hcg : ∀ (g : Gr p7_0) b o, b < p7_0.heap.size → g.val.cell? ⟨b, o, none⟩ = p7_0.cell? ⟨b, o, none⟩ := fun g b o h => (bcell g.b).1 b o h
  refine WR.step (by kernel_rfl) (fun K hK => ?_); go_simp; refine hK _ ?_; clear hK K
  refine WR.step (by kernel_rfl) (fun K hK => ?_); go_simp; refine hK _ ?_; clear hK K
  refine WR.step (by kernel_rfl) (fun K hK => ?_); go_simp; refine hK _ ?_; clear hK K
  refine WR.step (by kernel_rfl) (fun K hK => ?_); go_simp; refine hK _ ?_; clear hK K
  go_simp
  refine WR.nil fun p7_1 hb => ?_
  clear hcg cbk0 cbk1 cbk2 cbk3 cbk4 zbk
  replace bk := (hb.block _ (size_of_block bk)).trans bk
  replace b5 := (hb.block _ (size_of_block b5)).trans b5
  replace hO1 := own_later hO1 hb
  replace hB := below_then hB hb
  clear hb
  refine wpPlanW_call rfl (by kernel_rfl) fun K hK => ?_
  go_simp
  refine (HKK.out p7_1 (HK.out.later hB) (HI9.out.later hB)).mono ?_
  rintro e X ⟨rfl, hxx⟩
  refine hK _ _ hxx fun p7_2 hu => ?_
  clear hK K
  have hv := below_then hxx hu
  replace bk := (hv.block _ (size_of_block bk)).trans bk
  replace b5 := (hv.block _ (size_of_block b5)).trans b5
  replace hO1 := own_later hO1 hv
  replace hB := below_then hB hv
  clear hxx hu hv
  refine wpPlanW_call rfl (by kernel_rfl) fun K hK => ?_
  go_simp
  refine (HRR.out p7_2 (HK.out.later hB) (HI9.out.later hB)).mono ?_
  rintro e X ⟨rfl, hxx⟩
  refine hK _ _ hxx fun p7_3 hu => ?_
  clear hK K
  have hv := below_then hxx hu
  replace bk := (hv.block _ (size_of_block bk)).trans bk
  replace b5 := (hv.block _ (size_of_block b5)).trans b5
  replace hO1 := own_later hO1 hv
  replace hB := below_then hB hv
  clear hxx hu hv
  refine wpPlanW_r ?_
  simp only [pick, List.filterMap_cons, List.filterMap_nil, List.getElem?_toArray, List.getElem?_cons_succ, List.getElem?_cons_zero]
  have hcg : ∀ (g : Gr p7_3) b o, b < p7_3.heap.size → g.val.cell? ⟨b, o, none⟩ = p7_3.cell? ⟨b, o, none⟩ := fun g b o h => (bcell g.b).1 b o h
  refine WR.val (.bool false) (by kernel_rfl) (by intro g; first | (simp [execOp, go_sem]; done) | kernel_rfl) ?_
  refine WR.val (.bool false) (by kernel_rfl) (by intro g; first | (simp [execOp, go_sem]; done) | kernel_rfl) ?_
  refine WR.step (by kernel_rfl) (fun K hK => ?_); go_simp; refine hK _ ?_; clear hK K
  refine WR.step (by kernel_rfl) (fun K hK => ?_); go_simp; refine hK _ ?_; clear hK K
  refine WR.val (.bool false) (by kernel_rfl) (by intro g; first | (simp [execOp, go_sem]; done) | kernel_rfl) ?_
  refine WR.val (.bool false) (by kernel_rfl) (by intro g; first | (simp [execOp, go_sem]; done) | kernel_rfl) ?_
  go_simp
  refine WR.nil fun p7_4 hb => ?_
  clear hcg 
  replace bk := (hb.block _ (size_of_block bk)).trans bk
  replace b5 := (hb.block _ (size_of_block b5)).trans b5
  replace hO1 := own_later hO1 hb
  replace hB := below_then hB hb
  clear hb
  refine wpPlanW_nil ?_
  show wpList _ _ _ _ _ _
  skip
  have cbk0 := Joins.cell_of_block bk 0
  have cbk1 := Joins.cell_of_block bk 1
  have cbk2 := Joins.cell_of_block bk 2
  have cbk3 := Joins.cell_of_block bk 3
  have cbk4 := Joins.cell_of_block bk 4
  have zbk := size_of_block bk
  go_wp2_with fail
  refine (HN.out p7_4 (HK.out.later hB)).mono ?_
  rintro e w8 ⟨rfl, hF⟩
  clear cbk0 cbk1 cbk2 cbk3 cbk4 zbk
  replace bk := (hF.block _ (size_of_block bk)).trans bk
  replace b5 := (hF.block _ (size_of_block b5)).trans b5
  replace hO1 := own_later hO1 hF
  replace hB := below_then hB hF
  clear hF
  go_wp2_with fail
  refine (sanity_c _).mono ?_
  rintro e w9 ⟨rfl, hF⟩
  replace bk := (hF.block _ (size_of_block bk)).trans bk
  replace b5 := (hF.block _ (size_of_block b5)).trans b5
  replace hO1 := own_later hO1 hF
  replace hB := below_then hB hF
  clear hF
  have cbk0 := Joins.cell_of_block bk 0
  have cbk1 := Joins.cell_of_block bk 1
  have cbk2 := Joins.cell_of_block bk 2
  have cbk3 := Joins.cell_of_block bk 3
  have cbk4 := Joins.cell_of_block bk 4
  have zbk := size_of_block bk
  go_wp2_with fail
  refine (rclash_c k (.agg #[.int .i64 k.room, .int .i64 k.per, .slice A1 k.ls.length c1, .slice A2 k.ds.length c2, .slice A3 k.ws.length c3]) _ pp w9 (HK.out.later hB) (Ints.of_own hO1 (by have := HC2.out; omega))).mono ?_
  rintro e w10 ⟨rfl, hF⟩
  clear cbk0 cbk1 cbk2 cbk3 cbk4 zbk
  replace bk := (hF.block _ (size_of_block bk)).trans bk
  replace b5 := (hF.block _ (size_of_block b5)).trans b5
  replace hO1 := own_later hO1 hF
  replace hB := below_then hB hF
  clear hF
  rw [HC1.out]
  have cb50 := Joins.cell_of_block b5 0
  have cb51 := Joins.cell_of_block b5 1
  have zb5 := size_of_block b5
  go_wp2_with fail
  go_ret
  exact ⟨rfl, hB⟩
set_option maxRecDepth 100000 in
set_option maxHeartbeats 8000000 in
theorem SFinds_can (k : Kl) (A1 A2 A3 : Option Addr) (c1 c2 c3 : Nat) (I0 : Option Addr) (l5 e5 : Nat) (w : World) (hk : Kiln w (.agg #[.int .i64 k.room, .int .i64 k.per, .slice A1 k.ls.length c1, .slice A2 k.ds.length c2, .slice A3 k.ws.length c3]) k) (hf : fewB3 k.ls.length k.ds.length k.ws.length = true) (g0 : l5 ≤ 250) (li : List Int) (hi : Ints w w.heap.size (.slice I0 l5 e5) li) (hc : checkI k = 0) (hcan : canB (tiesL k) = true) : Calls Tryz.prog 4 #[.agg #[.int .i64 k.room, .int .i64 k.per, .slice A1 k.ls.length c1, .slice A2 k.ds.length c2, .slice A3 k.ws.length c3], .slice I0 l5 e5] w fun e w' => e = .returned (.bool true) ∧ Below w.heap.size w w' := by
  obtain ⟨CI, hCI⟩ : ∃ x, x = clashI k li := ⟨_, rfl⟩
  have yK := fun W h hi => CheckClash_c k (.agg #[.int .i64 k.room, .int .i64 k.per, .slice A1 k.ls.length c1, .slice A2 k.ds.length c2, .slice A3 k.ws.length c3]) (.slice I0 l5 e5) li W h hi
  have yR := fun W h hi => rclash_c k (.agg #[.int .i64 k.room, .int .i64 k.per, .slice A1 k.ls.length c1, .slice A2 k.ds.length c2, .slice A3 k.ws.length c3]) (.slice I0 l5 e5) li W h hi
  rw [← hCI] at yK yR
  have HKK := Lib.hid yK
  have HRR := Lib.hid yR
  clear yK yR hCI
  have HI9 := Lib.hid hi
  clear hi
  have d9 : decide ((l5 : Int) > 250) = false := decide_eq_false (by omega)
  have yC := fun W h => rcheck_c k (.agg #[.int .i64 k.room, .int .i64 k.per, .slice A1 k.ls.length c1, .slice A2 k.ds.length c2, .slice A3 k.ws.length c3]) W h
  have HR := Lib.hid (right_of_check hc)
  have hfe : findE k = 0 := by unfold findE; rw [if_neg (show ¬ checkI k ≠ 0 by simp [hc]), if_pos hcan]
  have hcl : clashB k = false := by unfold clashB; rw [hc, hcan]; rfl
  have yF := fun W h => Find_ok k (.agg #[.int .i64 k.room, .int .i64 k.per, .slice A1 k.ls.length c1, .slice A2 k.ds.length c2, .slice A3 k.ws.length c3]) W h hfe
  have yU := fun W h => Clash_no k (.agg #[.int .i64 k.room, .int .i64 k.per, .slice A1 k.ls.length c1, .slice A2 k.ds.length c2, .slice A3 k.ws.length c3]) W h hcl
  have hcb : canB (tiesL k) = true := hcan
  have HFT := Lib.hid (fun tl td (h : True_ k tl td) => (show fitsB k tl td = true from fitsB_iff.2 ⟨hc, h⟩))
  rw [hc] at yU yC
  have yN := fun W h => rCan_c k (.agg #[.int .i64 k.room, .int .i64 k.per, .slice A1 k.ls.length c1, .slice A2 k.ds.length c2, .slice A3 k.ws.length c3]) W h HR.out
  rw [hcb] at yN
  have HN := Lib.hid yN
  clear hfe hcl hc yN hcb hcan
  have HF := Lib.hid yF
  clear yF
  have HU := Lib.hid yU
  clear yU
  have HC := Lib.hid yC
  clear yC
  have HK := Lib.hid hk
  clear hk
  have hfk := Tryz.fieldKept1
  go_enter Tryz.func4, Tryz.ntmps4
  have bk := heap_alloc_new w (.cells #[.int .i64 k.room, .int .i64 k.per, .slice A1 k.ls.length c1, .slice A2 k.ds.length c2, .slice A3 k.ws.length c3] 26)
  have HB := below_alloc w (.cells #[.int .i64 k.room, .int .i64 k.per, .slice A1 k.ls.length c1, .slice A2 k.ds.length c2, .slice A3 k.ws.length c3] 26)
  have cbk0 := Joins.cell_of_block bk 0
  have cbk1 := Joins.cell_of_block bk 1
  have cbk2 := Joins.cell_of_block bk 2
  have cbk3 := Joins.cell_of_block bk 3
  have cbk4 := Joins.cell_of_block bk 4
  have zbk := size_of_block bk
  go_wp2_with fail
  generalize (w.alloc (.cells #[.int .i64 k.room, .int .i64 k.per, .slice A1 k.ls.length c1, .slice A2 k.ds.length c2, .slice A3 k.ws.length c3] 26)) = w1 at bk HB cbk0 cbk1 cbk2 cbk3 cbk4 zbk ⊢
  have hB := HB
  clear HB
  refine (lfew_c k.room k.per A1 A2 A3 k.ls.length c1 k.ds.length c2 k.ws.length c3 _).mono ?_
  rintro e w2 ⟨rfl, hF⟩
  clear cbk0 cbk1 cbk2 cbk3 cbk4 zbk
  replace bk := (hF.block _ (size_of_block bk)).trans bk
  replace hB := below_then hB hF
  clear hF
  rw [hf]
  have cbk0 := Joins.cell_of_block bk 0
  have cbk1 := Joins.cell_of_block bk 1
  have cbk2 := Joins.cell_of_block bk 2
  have cbk3 := Joins.cell_of_block bk 3
  have cbk4 := Joins.cell_of_block bk 4
  have zbk := size_of_block bk
  go_wp2_with fail
  all_goals (try (exfalso; omega))
  refine (HF.out w2 (HK.out.later hB)).mono ?_
  rintro e w3 ⟨F1, f1, F2, f2, tl, td, rfl, ⟨hO1, hO2, hTR⟩, hF⟩
  clear cbk0 cbk1 cbk2 cbk3 cbk4 zbk
  replace bk := (hF.block _ (size_of_block bk)).trans bk
  replace hB := below_then hB hF
  clear hF
  have HTR := Lib.hid hTR
  clear hTR
  have b5 := heap_alloc_new w3 (.cells #[.slice F1 tl.length f1, .slice F2 td.length f2] 29)
  have HB := below_alloc w3 (.cells #[.slice F1 tl.length f1, .slice F2 td.length f2] 29)
  have cbk0 := Joins.cell_of_block ((HB.block _ (size_of_block bk)).trans bk) 0
  have cbk1 := Joins.cell_of_block ((HB.block _ (size_of_block bk)).trans bk) 1
  have cbk2 := Joins.cell_of_block ((HB.block _ (size_of_block bk)).trans bk) 2
  have cbk3 := Joins.cell_of_block ((HB.block _ (size_of_block bk)).trans bk) 3
  have cbk4 := Joins.cell_of_block ((HB.block _ (size_of_block bk)).trans bk) 4
  have zbk := size_of_block bk
  go_wp2_with fail
  generalize (w3.alloc (.cells #[.slice F1 tl.length f1, .slice F2 td.length f2] 29)) = w4 at b5 HB cbk0 cbk1 cbk2 cbk3 cbk4 ⊢
  replace bk := (HB.block _ (size_of_block bk)).trans bk
  replace hO1 := own_later hO1 HB
  replace hO2 := own_later hO2 HB
  replace hB := below_then hB HB
  clear HB
  refine (HU.out w4 (HK.out.later hB)).mono ?_
  rintro e w5 ⟨U1, u1, rfl, hF⟩
  clear cbk0 cbk1 cbk2 cbk3 cbk4 zbk
  replace bk := (hF.block _ (size_of_block bk)).trans bk
  replace b5 := (hF.block _ (size_of_block b5)).trans b5
  replace hO1 := own_later hO1 hF
  replace hO2 := own_later hO2 hF
  replace hB := below_then hB hF
  clear hF
  have cbk0 := Joins.cell_of_block bk 0
  have cbk1 := Joins.cell_of_block bk 1
  have cbk2 := Joins.cell_of_block bk 2
  have cbk3 := Joins.cell_of_block bk 3
  have cbk4 := Joins.cell_of_block bk 4
  have zbk := size_of_block bk
  go_wp2_with fail
  refine (HC.out w5 (HK.out.later hB)).mono ?_
  rintro e w6 ⟨rfl, hF⟩
  clear cbk0 cbk1 cbk2 cbk3 cbk4 zbk
  replace bk := (hF.block _ (size_of_block bk)).trans bk
  replace b5 := (hF.block _ (size_of_block b5)).trans b5
  replace hO1 := own_later hO1 hF
  replace hO2 := own_later hO2 hF
  replace hB := below_then hB hF
  clear hF
  go_wp2_with fail
  refine wp_region_planW [.f [0, 1, 3, 4], .s 2, .s 5, .f [6, 7, 8, 9, 10, 11]] [] (by kernel_rfl) (by kernel_rfl) (by intro c a d v w h; cases d <;> exact h) ?_
  intro p7_0 hu
  replace bk := (hu.block _ (size_of_block bk)).trans bk
  replace b5 := (hu.block _ (size_of_block b5)).trans b5
  replace hO1 := own_later hO1 hu
  replace hO2 := own_later hO2 hu
  replace hB := below_then hB hu
  clear hu
  refine wpPlanW_r ?_
  simp only [pick, List.filterMap_cons, List.filterMap_nil, List.getElem?_toArray, List.getElem?_cons_succ, List.getElem?_cons_zero]
  have cbk0 := Joins.cell_of_block bk 0
  have cbk1 := Joins.cell_of_block bk 1
  have cbk2 := Joins.cell_of_block bk 2
  have cbk3 := Joins.cell_of_block bk 3
  have cbk4 := Joins.cell_of_block bk 4
  have zbk := size_of_block bk
  have hcg : ∀ (g : Gr p7_0) b o, b < p7_0.heap.size → g.val.cell? ⟨b, o, none⟩ = p7_0.cell? ⟨b, o, none⟩ := fun g b o h => (bcell g.b).1 b o h
  refine WR.step (by kernel_rfl) (fun K hK => ?_); go_simp; refine hK _ ?_; clear hK K
  refine WR.step (by kernel_rfl) (fun K hK => ?_); go_simp; refine hK _ ?_; clear hK K
  refine WR.step (by kernel_rfl) (fun K hK => ?_); go_simp; refine hK _ ?_; clear hK K
  refine WR.step (by kernel_rfl) (fun K hK => ?_); go_simp; refine hK _ ?_; clear hK K
  go_simp
  refine WR.nil fun p7_1 hb => ?_
  clear hcg cbk0 cbk1 cbk2 cbk3 cbk4 zbk
  replace bk := (hb.block _ (size_of_block bk)).trans bk
  replace b5 := (hb.block _ (size_of_block b5)).trans b5
  replace hO1 := own_later hO1 hb
  replace hO2 := own_later hO2 hb
  replace hB := below_then hB hb
  clear hb
  refine wpPlanW_call rfl (by kernel_rfl) fun K hK => ?_
  go_simp
  refine (HKK.out p7_1 (HK.out.later hB) (HI9.out.later hB)).mono ?_
  rintro e X ⟨rfl, hxx⟩
  refine hK _ _ hxx fun p7_2 hu => ?_
  clear hK K
  have hv := below_then hxx hu
  replace bk := (hv.block _ (size_of_block bk)).trans bk
  replace b5 := (hv.block _ (size_of_block b5)).trans b5
  replace hO1 := own_later hO1 hv
  replace hO2 := own_later hO2 hv
  replace hB := below_then hB hv
  clear hxx hu hv
  refine wpPlanW_call rfl (by kernel_rfl) fun K hK => ?_
  go_simp
  refine (HRR.out p7_2 (HK.out.later hB) (HI9.out.later hB)).mono ?_
  rintro e X ⟨rfl, hxx⟩
  refine hK _ _ hxx fun p7_3 hu => ?_
  clear hK K
  have hv := below_then hxx hu
  replace bk := (hv.block _ (size_of_block bk)).trans bk
  replace b5 := (hv.block _ (size_of_block b5)).trans b5
  replace hO1 := own_later hO1 hv
  replace hO2 := own_later hO2 hv
  replace hB := below_then hB hv
  clear hxx hu hv
  refine wpPlanW_r ?_
  simp only [pick, List.filterMap_cons, List.filterMap_nil, List.getElem?_toArray, List.getElem?_cons_succ, List.getElem?_cons_zero]
  have hcg : ∀ (g : Gr p7_3) b o, b < p7_3.heap.size → g.val.cell? ⟨b, o, none⟩ = p7_3.cell? ⟨b, o, none⟩ := fun g b o h => (bcell g.b).1 b o h
  refine WR.val (.bool false) (by kernel_rfl) (by intro g; first | (simp [execOp, go_sem]; done) | kernel_rfl) ?_
  refine WR.val (.bool false) (by kernel_rfl) (by intro g; first | (simp [execOp, go_sem]; done) | kernel_rfl) ?_
  refine WR.step (by kernel_rfl) (fun K hK => ?_); go_simp; refine hK _ ?_; clear hK K
  refine WR.step (by kernel_rfl) (fun K hK => ?_); go_simp; refine hK _ ?_; clear hK K
  refine WR.val (.bool false) (by kernel_rfl) (by intro g; first | (simp [execOp, go_sem]; done) | kernel_rfl) ?_
  refine WR.val (.bool false) (by kernel_rfl) (by intro g; first | (simp [execOp, go_sem]; done) | kernel_rfl) ?_
  go_simp
  refine WR.nil fun p7_4 hb => ?_
  clear hcg 
  replace bk := (hb.block _ (size_of_block bk)).trans bk
  replace b5 := (hb.block _ (size_of_block b5)).trans b5
  replace hO1 := own_later hO1 hb
  replace hO2 := own_later hO2 hb
  replace hB := below_then hB hb
  clear hb
  refine wpPlanW_nil ?_
  show wpList _ _ _ _ _ _
  skip
  have cbk0 := Joins.cell_of_block bk 0
  have cbk1 := Joins.cell_of_block bk 1
  have cbk2 := Joins.cell_of_block bk 2
  have cbk3 := Joins.cell_of_block bk 3
  have cbk4 := Joins.cell_of_block bk 4
  have zbk := size_of_block bk
  go_wp2_with fail
  refine (HN.out p7_4 (HK.out.later hB)).mono ?_
  rintro e w8 ⟨rfl, hF⟩
  clear cbk0 cbk1 cbk2 cbk3 cbk4 zbk
  replace bk := (hF.block _ (size_of_block bk)).trans bk
  replace b5 := (hF.block _ (size_of_block b5)).trans b5
  replace hO1 := own_later hO1 hF
  replace hO2 := own_later hO2 hF
  replace hB := below_then hB hF
  clear hF
  go_wp2_with fail
  refine (sanity_c _).mono ?_
  rintro e w9 ⟨rfl, hF⟩
  replace bk := (hF.block _ (size_of_block bk)).trans bk
  replace b5 := (hF.block _ (size_of_block b5)).trans b5
  replace hO1 := own_later hO1 hF
  replace hO2 := own_later hO2 hF
  replace hB := below_then hB hF
  clear hF
  have cbk0 := Joins.cell_of_block bk 0
  have cbk1 := Joins.cell_of_block bk 1
  have cbk2 := Joins.cell_of_block bk 2
  have cbk3 := Joins.cell_of_block bk 3
  have cbk4 := Joins.cell_of_block bk 4
  have zbk := size_of_block bk
  have cb50 := Joins.cell_of_block b5 0
  have cb51 := Joins.cell_of_block b5 1
  have zb5 := size_of_block b5
  go_wp2_with fail
  have hl1 := (wtsB_iff.1 HTR.out.1).1
  have hl2 := (wtsB_iff.1 HTR.out.2.1).1
  have hl3 := HR.out.ls
  have hl4 := HR.out.ds
  refine (rFits_c k (.agg #[.int .i64 k.room, .int .i64 k.per, .slice A1 k.ls.length c1, .slice A2 k.ds.length c2, .slice A3 k.ws.length c3]) _ tl td w9 (HK.out.later hB) ⟨_, _, rfl, Ints.of_own hO1 (by omega), Ints.of_own hO2 (by omega)⟩).mono ?_
  rintro e w10 ⟨rfl, hF⟩
  clear cbk0 cbk1 cbk2 cbk3 cbk4 zbk cb50 cb51 zb5
  replace bk := (hF.block _ (size_of_block bk)).trans bk
  replace b5 := (hF.block _ (size_of_block b5)).trans b5
  replace hO1 := own_later hO1 hF
  replace hO2 := own_later hO2 hF
  replace hB := below_then hB hF
  clear hF
  rw [HFT.out tl td HTR.out]
  clear hl1 hl2 hl3 hl4
  go_wp2_with fail
  go_ret
  exact ⟨rfl, hB⟩
theorem ShaftFinds_w (rm pr : Int) (A1 : Option Addr) (n1 c1 : Nat) (A2 : Option Addr) (n2 c2 : Nat) (A3 : Option Addr) (n3 c3 : Nat) (I0 : Option Addr) (l5 e5 : Nat) (w : World)
    (hk : (∃ k : Kl, k.room = rm ∧ k.per = pr ∧ k.ls.length = n1 ∧ k.ds.length = n2 ∧ k.ws.length = n3 ∧ Kiln w (.agg #[.int .i64 rm, .int .i64 pr, .slice A1 n1 c1, .slice A2 n2 c2, .slice A3 n3 c3]) k) ∨ 140737488355328 < n1 ∨ 140737488355328 < n2 ∨ 140737488355328 < n3) (hi : (∃ l : List Int, l.length = l5 ∧ Ints w w.heap.size (.slice I0 l5 e5) l) ∨ 140737488355328 < l5) :
    Calls Tryz.prog 4 #[.agg #[.int .i64 rm, .int .i64 pr, .slice A1 n1 c1, .slice A2 n2 c2, .slice A3 n3 c3], .slice I0 l5 e5] w fun e w' => e = .returned (.bool true) ∧ Below w.heap.size w w' := by
  rcases kiln_arg hk with h | ⟨hf, k, rfl, rfl, rfl, rfl, rfl, hk⟩
  · exact SFinds_no rm pr A1 n1 c1 A2 n2 c2 A3 n3 c3 I0 l5 e5 w h
  · by_cases g0 : 250 < l5
    · exact SFinds_long k A1 A2 A3 c1 c2 c3 I0 l5 e5 w hk hf g0
    · rcases hi with ⟨li, _, hi⟩ | hi
      · by_cases h0 : checkI k = 0
        · by_cases hcan : canB (tiesL k) = true
          · exact SFinds_can k A1 A2 A3 c1 c2 c3 I0 l5 e5 w hk hf (by omega) li hi h0 hcan
          · exact SFinds_cant k A1 A2 A3 c1 c2 c3 I0 l5 e5 w hk hf (by omega) li hi h0 hcan
        · exact SFinds_bad k A1 A2 A3 c1 c2 c3 I0 l5 e5 w hk hf (by omega) li hi h0
      · omega
end Go.Proofs.YtpgepfbdjefmdaaGreat
