/- ShaftProves: the walk where all is right (written by tools/gensproves.py). -/
import Derived.Test.YtpgepfbdjefmdaaGreatZSProvesA
import Derived.Test.YtpgepfbdjefmdaaGreatZSHgtE
import Derived.Test.YtpgepfbdjefmdaaGreatZSFitsE
import Derived.Test.YtpgepfbdjefmdaaGreatZSChkClashE
import Derived.Test.YtpgepfbdjefmdaaGreatZSLawME
import Derived.Test.YtpgepfbdjefmdaaGreatZSAbFE
namespace Go.Proofs.YtpgepfbdjefmdaaGreat
open Go Go.RowKit Go.Shelf
attribute [local go_sem] Oper.semAt_some Rel RelAt RelUpon

set_option maxRecDepth 100000 in
set_option maxHeartbeats 8000000 in
theorem SProves_cant (k : Kl) (A1 A2 A3 : Option Addr) (c1 c2 c3 : Nat) (a b : Nat) (m : Int) (P0 : Option Addr) (l0 e0 : Nat) (P1 : Option Addr) (l1 e1 : Nat) (P2 : Option Addr) (l2 e2 : Nat) (T1 : Option Addr) (l3 e3 : Nat) (T2 : Option Addr) (l4 e4 : Nat) (I0 : Option Addr) (l5 e5 : Nat) (w : World) (hk : Kiln w (.agg #[.int .i64 k.room, .int .i64 k.per, .slice A1 k.ls.length c1, .slice A2 k.ds.length c2, .slice A3 k.ws.length c3]) k) (hf : fewB3 k.ls.length k.ds.length k.ws.length = true) (ha : a ≤ 255) (hb9 : b ≤ 255) (hc : checkI k = 0) (p tl td xl xd li : List Int) (g0 : l5 ≤ 250) (g1 : l0 ≤ 250) (g2 : l1 ≤ 60) (g3 : l2 ≤ 60) (g4 : l3 ≤ 60) (g5 : l4 ≤ 60) (hp : Ints w w.heap.size (.slice P0 l0 e0) p) (ht : Truth w (.agg #[.slice P1 l1 e1, .slice P2 l2 e2]) tl td) (hx : Truth w (.agg #[.slice T1 l3 e3, .slice T2 l4 e4]) xl xd) (hi : Ints w w.heap.size (.slice I0 l5 e5) li) (hcan : ¬ canB (tiesL k) = true) : Calls Tryz.prog 10 #[.agg #[.int .i64 k.room, .int .i64 k.per, .slice A1 k.ls.length c1, .slice A2 k.ds.length c2, .slice A3 k.ws.length c3], .int .u8 a, .int .u8 b, .agg #[.int .i64 m, .slice P0 l0 e0, .slice P1 l1 e1, .slice P2 l2 e2], .agg #[.slice T1 l3 e3, .slice T2 l4 e4], .slice I0 l5 e5] w fun e w' => e = .returned (.bool true) ∧ Below w.heap.size w w' := by
  have HR := Lib.hid (right_of_check hc)
  have hcB : (checkI k == 0) = true := by rw [hc]; rfl
  obtain ⟨ha1, ha2, dz⟩ := mark_mod (k := k) a (by omega)
  have ha4 := mark_emod (k := k) a
  obtain ⟨a', ha3⟩ : ∃ x, x = a % mN k := ⟨_, rfl⟩
  rw [← ha3] at ha1 ha2 ha4
  clear ha3
  obtain ⟨hb1, hb2, dz⟩ := mark_mod (k := k) b (by omega)
  have hb4 := mark_emod (k := k) b
  obtain ⟨b', hb3⟩ : ∃ x, x = b % mN k := ⟨_, rfl⟩
  rw [← hb3] at hb1 hb2 hb4
  clear hb3
  have yX := fun W h => Above_f k (.agg #[.int .i64 k.room, .int .i64 k.per, .slice A1 k.ls.length c1, .slice A2 k.ds.length c2, .slice A3 k.ws.length c3]) a' b' W h
  have hme := mostE_ok hc ha2 hb2
  rw [if_neg hcan] at hme
  rw [hme] at yX
  clear hme
  have yC := fun W h => Clash_c k (.agg #[.int .i64 k.room, .int .i64 k.per, .slice A1 k.ls.length c1, .slice A2 k.ds.length c2, .slice A3 k.ws.length c3]) W h
  have hcl : clashB k = true := by unfold clashB; rw [hcB]; simpa using hcan
  rw [hcl, hc] at yC
  clear hcl
  have yF := fun W h ht => Fits_c k (.agg #[.int .i64 k.room, .int .i64 k.per, .slice A1 k.ls.length c1, .slice A2 k.ds.length c2, .slice A3 k.ws.length c3]) (.agg #[.slice T1 l3 e3, .slice T2 l4 e4]) xl xd W h ht
  have yK := fun W h hi => CheckClash_c k (.agg #[.int .i64 k.room, .int .i64 k.per, .slice A1 k.ls.length c1, .slice A2 k.ds.length c2, .slice A3 k.ws.length c3]) (.slice I0 l5 e5) li W h hi
  have yA := fun W h hp ht => CheckAbove_d k (.agg #[.int .i64 k.room, .int .i64 k.per, .slice A1 k.ls.length c1, .slice A2 k.ds.length c2, .slice A3 k.ws.length c3]) P0 P1 P2 l0 e0 l1 e1 l2 e2 a' b' m p tl td W h hp ht
  have hca : ¬ Can (tiesL k) := fun h => hcan (canB_true.2 h)
  have hFB : fitsB k xl xd = false := by cases h : fitsB k xl xd with | false => rfl | true => exact absurd (fits_can h) hca
  rw [hFB] at yF
  clear hFB
  have hnA : aboveC k a' b' m p tl td ≠ 0 := fun h => hca (above_ok h).1
  obtain ⟨AC, hAC2⟩ : ∃ x, x = aboveC k a' b' m p tl td := ⟨_, rfl⟩
  rw [← hAC2] at yA hnA
  have dAC : (AC == 0) = false := by simpa using hnA
  clear hAC2
  obtain ⟨CI, hCI⟩ : ∃ x, x = clashI k li := ⟨_, rfl⟩
  rw [← hCI] at yK
  clear hCI hca hcan hnA
  obtain ⟨FN, hFN⟩ : ∃ x, x = fitsN k xl xd := ⟨_, rfl⟩
  obtain ⟨FE, hFE⟩ : ∃ x, x = fitsE k xl xd := ⟨_, rfl⟩
  rw [← hFN, ← hFE] at yF
  clear hFN hFE
  have HX := Lib.hid yX
  clear yX
  have HC := Lib.hid yC
  clear yC
  have HF := Lib.hid yF
  clear yF
  have HKK := Lib.hid yK
  clear yK
  have HA := Lib.hid yA
  clear yA
  have yM := fun W => lmarks_c k A1 A2 A3 c1 c2 c3 W HR.out
  obtain ⟨NN, hNN⟩ : ∃ x, x = marksN k := ⟨_, rfl⟩
  rw [← hNN] at yM ha1 hb1 ha4 hb4 dz
  have HM := Lib.hid yM
  clear yM hNN ha2 hb2
  have HP := Lib.hid hp
  have HT := Lib.hid ht
  have HX9 := Lib.hid hx
  have HI9 := Lib.hid hi
  clear hp ht hx hi
  have d0 : decide ((l5 : Int) > 250) = false := decide_eq_false (by omega)
  have d1 : decide ((l0 : Int) > 250) = false := decide_eq_false (by omega)
  have d2 : decide ((l1 : Int) > 60) = false := decide_eq_false (by omega)
  have d3 : decide ((l2 : Int) > 60) = false := decide_eq_false (by omega)
  have d4 : decide ((l3 : Int) > 60) = false := decide_eq_false (by omega)
  have d5 : decide ((l4 : Int) > 60) = false := decide_eq_false (by omega)
  have HG := Lib.hid (⟨g0, g1, g2, g3, g4, g5⟩ : l5 ≤ 250 ∧ l0 ≤ 250 ∧ l1 ≤ 60 ∧ l2 ≤ 60 ∧ l3 ≤ 60 ∧ l4 ≤ 60)
  have HK := Lib.hid hk
  clear hk
  go_enter Tryz.func10, Tryz.ntmps10
  obtain ⟨bk, bc, bt, -, HB⟩ := three_new w (.cells #[.int .i64 k.room, .int .i64 k.per, .slice A1 k.ls.length c1, .slice A2 k.ds.length c2, .slice A3 k.ws.length c3] 26) (.cells #[.int .i64 m, .slice P0 l0 e0, .slice P1 l1 e1, .slice P2 l2 e2] 54) (.cells #[.slice T1 l3 e3, .slice T2 l4 e4] 29)
  have cbk0 := Joins.cell_of_block bk 0
  have cbk1 := Joins.cell_of_block bk 1
  have cbk2 := Joins.cell_of_block bk 2
  have cbk3 := Joins.cell_of_block bk 3
  have cbk4 := Joins.cell_of_block bk 4
  have zbk := size_of_block bk
  go_wp2_with fail
  generalize (((w.alloc (.cells #[.int .i64 k.room, .int .i64 k.per, .slice A1 k.ls.length c1, .slice A2 k.ds.length c2, .slice A3 k.ws.length c3] 26)).alloc (.cells #[.int .i64 m, .slice P0 l0 e0, .slice P1 l1 e1, .slice P2 l2 e2] 54)).alloc (.cells #[.slice T1 l3 e3, .slice T2 l4 e4] 29)) = w1 at bk bc bt HB cbk0 cbk1 cbk2 cbk3 cbk4 zbk ⊢
  have hB := HB
  clear HB
  refine (lfew_c k.room k.per A1 A2 A3 k.ls.length c1 k.ds.length c2 k.ws.length c3 _).mono ?_
  rintro e w2 ⟨rfl, hF⟩
  clear cbk0 cbk1 cbk2 cbk3 cbk4 zbk
  replace bk := (hF.block _ (size_of_block bk)).trans bk
  replace bc := (hF.block _ (size_of_block bc)).trans bc
  replace bt := (hF.block _ (size_of_block bt)).trans bt
  replace hB := below_then hB hF
  clear hF
  rw [hf]
  have cbk0 := Joins.cell_of_block bk 0
  have cbk1 := Joins.cell_of_block bk 1
  have cbk2 := Joins.cell_of_block bk 2
  have cbk3 := Joins.cell_of_block bk 3
  have cbk4 := Joins.cell_of_block bk 4
  have zbk := size_of_block bk
  go_wp2_with fail
  refine (check_c k _ w2 (HK.out.later hB)).mono ?_
  rintro e w3 ⟨rfl, hF⟩
  clear cbk0 cbk1 cbk2 cbk3 cbk4 zbk
  replace bk := (hF.block _ (size_of_block bk)).trans bk
  replace bc := (hF.block _ (size_of_block bc)).trans bc
  replace bt := (hF.block _ (size_of_block bt)).trans bt
  replace hB := below_then hB hF
  clear hF
  rw [hc]
  clear hcB hc
  have cbc0 := Joins.cell_of_block bc 0
  have cbc1 := Joins.cell_of_block bc 1
  have cbc2 := Joins.cell_of_block bc 2
  have cbc3 := Joins.cell_of_block bc 3
  have zbc := size_of_block bc
  have cbt0 := Joins.cell_of_block bt 0
  have cbt1 := Joins.cell_of_block bt 1
  have zbt := size_of_block bt
  have cbk0 := Joins.cell_of_block bk 0
  have cbk1 := Joins.cell_of_block bk 1
  have cbk2 := Joins.cell_of_block bk 2
  have cbk3 := Joins.cell_of_block bk 3
  have cbk4 := Joins.cell_of_block bk 4
  have zbk := size_of_block bk
  go_wp2_with fail
  all_goals (try (exfalso; omega))
  refine (HM.out _).mono ?_
  rintro e w4 ⟨rfl, hF⟩
  clear cbc0 cbc1 cbc2 cbc3 zbc cbt0 cbt1 zbt cbk0 cbk1 cbk2 cbk3 cbk4 zbk
  replace bk := (hF.block _ (size_of_block bk)).trans bk
  replace bc := (hF.block _ (size_of_block bc)).trans bc
  replace bt := (hF.block _ (size_of_block bt)).trans bt
  replace hB := below_then hB hF
  clear hF
  have cbk0 := Joins.cell_of_block bk 0
  have cbk1 := Joins.cell_of_block bk 1
  have cbk2 := Joins.cell_of_block bk 2
  have cbk3 := Joins.cell_of_block bk 3
  have cbk4 := Joins.cell_of_block bk 4
  have zbk := size_of_block bk
  go_wp2_with fail
  refine (HM.out _).mono ?_
  rintro e w5 ⟨rfl, hF⟩
  clear cbk0 cbk1 cbk2 cbk3 cbk4 zbk
  replace bk := (hF.block _ (size_of_block bk)).trans bk
  replace bc := (hF.block _ (size_of_block bc)).trans bc
  replace bt := (hF.block _ (size_of_block bt)).trans bt
  replace hB := below_then hB hF
  clear hF
  have cbk0 := Joins.cell_of_block bk 0
  have cbk1 := Joins.cell_of_block bk 1
  have cbk2 := Joins.cell_of_block bk 2
  have cbk3 := Joins.cell_of_block bk 3
  have cbk4 := Joins.cell_of_block bk 4
  have zbk := size_of_block bk
  go_wp2_with fail
  refine (HX.out w5 (HK.out.later hB)).mono ?_
  rintro e w6 ⟨X0, Xc0, X1, Xc1, X2, Xc2, Xpp, Xtl, Xtd, rfl, ⟨hO0, hO1, hO2, hAI, hNI⟩, hF⟩
  clear cbk0 cbk1 cbk2 cbk3 cbk4 zbk
  replace bk := (hF.block _ (size_of_block bk)).trans bk
  replace bc := (hF.block _ (size_of_block bc)).trans bc
  replace bt := (hF.block _ (size_of_block bt)).trans bt
  replace hB := below_then hB hF
  clear hF
  clear hNI
  have HAI := Lib.hid hAI
  clear hAI
  have bx := heap_alloc_new w6 (.cells #[.int .i64 0, .slice X0 Xpp.length Xc0, .slice X1 Xtl.length Xc1, .slice X2 Xtd.length Xc2] 54)
  have HB := below_alloc w6 (.cells #[.int .i64 0, .slice X0 Xpp.length Xc0, .slice X1 Xtl.length Xc1, .slice X2 Xtd.length Xc2] 54)
  have cbk0 := Joins.cell_of_block ((HB.block _ (size_of_block bk)).trans bk) 0
  have cbk1 := Joins.cell_of_block ((HB.block _ (size_of_block bk)).trans bk) 1
  have cbk2 := Joins.cell_of_block ((HB.block _ (size_of_block bk)).trans bk) 2
  have cbk3 := Joins.cell_of_block ((HB.block _ (size_of_block bk)).trans bk) 3
  have cbk4 := Joins.cell_of_block ((HB.block _ (size_of_block bk)).trans bk) 4
  have zbk := size_of_block bk
  go_wp2_with fail
  generalize (w6.alloc (.cells #[.int .i64 0, .slice X0 Xpp.length Xc0, .slice X1 Xtl.length Xc1, .slice X2 Xtd.length Xc2] 54)) = w7 at bx HB cbk0 cbk1 cbk2 cbk3 cbk4 ⊢
  replace bk := (HB.block _ (size_of_block bk)).trans bk
  replace bc := (HB.block _ (size_of_block bc)).trans bc
  replace bt := (HB.block _ (size_of_block bt)).trans bt
  replace hO0 := own_later hO0 HB
  replace hO1 := own_later hO1 HB
  replace hO2 := own_later hO2 HB
  replace hB := below_then hB HB
  clear HB
  refine (HC.out w7 (HK.out.later hB)).mono ?_
  rintro e w8 ⟨uc, pc, rfl, hOC, hCC, _, hF⟩
  clear cbk0 cbk1 cbk2 cbk3 cbk4 zbk
  replace bk := (hF.block _ (size_of_block bk)).trans bk
  replace bc := (hF.block _ (size_of_block bc)).trans bc
  replace bt := (hF.block _ (size_of_block bt)).trans bt
  replace bx := (hF.block _ (size_of_block bx)).trans bx
  replace hO0 := own_later hO0 hF
  replace hO1 := own_later hO1 hF
  replace hO2 := own_later hO2 hF
  replace hB := below_then hB hF
  clear hF
  obtain ⟨hcc1, hcc2⟩ := hCC trivial
  have HCC := Lib.hid hcc1
  clear hcc1 hCC
  have cbk0 := Joins.cell_of_block bk 0
  have cbk1 := Joins.cell_of_block bk 1
  have cbk2 := Joins.cell_of_block bk 2
  have cbk3 := Joins.cell_of_block bk 3
  have cbk4 := Joins.cell_of_block bk 4
  have zbk := size_of_block bk
  have cbt0 := Joins.cell_of_block bt 0
  have cbt1 := Joins.cell_of_block bt 1
  have zbt := size_of_block bt
  go_wp2_with fail
  refine (HF.out w8 (HK.out.later hB) (HX9.out.later hB)).mono ?_
  rintro e w9 ⟨rfl, hF⟩
  clear cbk0 cbk1 cbk2 cbk3 cbk4 zbk cbt0 cbt1 zbt
  replace bk := (hF.block _ (size_of_block bk)).trans bk
  replace bc := (hF.block _ (size_of_block bc)).trans bc
  replace bt := (hF.block _ (size_of_block bt)).trans bt
  replace bx := (hF.block _ (size_of_block bx)).trans bx
  replace hO0 := own_later hO0 hF
  replace hO1 := own_later hO1 hF
  replace hO2 := own_later hO2 hF
  replace hOC := own_later hOC hF
  replace hB := below_then hB hF
  clear hF
  have cbk0 := Joins.cell_of_block bk 0
  have cbk1 := Joins.cell_of_block bk 1
  have cbk2 := Joins.cell_of_block bk 2
  have cbk3 := Joins.cell_of_block bk 3
  have cbk4 := Joins.cell_of_block bk 4
  have zbk := size_of_block bk
  go_wp2_with fail
  refine (HKK.out w9 (HK.out.later hB) (HI9.out.later hB)).mono ?_
  rintro e w10 ⟨rfl, hF⟩
  clear cbk0 cbk1 cbk2 cbk3 cbk4 zbk
  replace bk := (hF.block _ (size_of_block bk)).trans bk
  replace bc := (hF.block _ (size_of_block bc)).trans bc
  replace bt := (hF.block _ (size_of_block bt)).trans bt
  replace bx := (hF.block _ (size_of_block bx)).trans bx
  replace hO0 := own_later hO0 hF
  replace hO1 := own_later hO1 hF
  replace hO2 := own_later hO2 hF
  replace hOC := own_later hOC hF
  replace hB := below_then hB hF
  clear hF
  generalize hbb : (CI == 0) = bb
  cases bb
  · have cbk0 := Joins.cell_of_block bk 0
    have cbk1 := Joins.cell_of_block bk 1
    have cbk2 := Joins.cell_of_block bk 2
    have cbk3 := Joins.cell_of_block bk 3
    have cbk4 := Joins.cell_of_block bk 4
    have zbk := size_of_block bk
    have cbc0 := Joins.cell_of_block bc 0
    have cbc1 := Joins.cell_of_block bc 1
    have cbc2 := Joins.cell_of_block bc 2
    have cbc3 := Joins.cell_of_block bc 3
    have zbc := size_of_block bc
    go_wp2_with fail
    refine (HA.out w10 (HK.out.later hB) (HP.out.later hB) (HT.out.later hB)).mono ?_
    rintro e w11 ⟨rfl, hF⟩
    clear cbk0 cbk1 cbk2 cbk3 cbk4 zbk cbc0 cbc1 cbc2 cbc3 zbc
    replace bk := (hF.block _ (size_of_block bk)).trans bk
    replace bc := (hF.block _ (size_of_block bc)).trans bc
    replace bt := (hF.block _ (size_of_block bt)).trans bt
    replace bx := (hF.block _ (size_of_block bx)).trans bx
    replace hO0 := own_later hO0 hF
    replace hO1 := own_later hO1 hF
    replace hO2 := own_later hO2 hF
    replace hOC := own_later hOC hF
    replace hB := below_then hB hF
    clear hF
    go_wp2_with fail
    refine (sanity_c _).mono ?_
    rintro e w12 ⟨rfl, hF⟩
    replace bk := (hF.block _ (size_of_block bk)).trans bk
    replace bc := (hF.block _ (size_of_block bc)).trans bc
    replace bt := (hF.block _ (size_of_block bt)).trans bt
    replace bx := (hF.block _ (size_of_block bx)).trans bx
    replace hO0 := own_later hO0 hF
    replace hO1 := own_later hO1 hF
    replace hO2 := own_later hO2 hF
    replace hOC := own_later hOC hF
    replace hB := below_then hB hF
    clear hF
    have cbk0 := Joins.cell_of_block bk 0
    have cbk1 := Joins.cell_of_block bk 1
    have cbk2 := Joins.cell_of_block bk 2
    have cbk3 := Joins.cell_of_block bk 3
    have cbk4 := Joins.cell_of_block bk 4
    have zbk := size_of_block bk
    go_wp2_with fail
    refine (CheckClash_c k (.agg #[.int .i64 k.room, .int .i64 k.per, .slice A1 k.ls.length c1, .slice A2 k.ds.length c2, .slice A3 k.ws.length c3]) uc pc w12 (HK.out.later hB) (Ints.of_own hOC (by omega))).mono ?_
    rintro e w13 ⟨rfl, hF⟩
    clear cbk0 cbk1 cbk2 cbk3 cbk4 zbk
    replace bk := (hF.block _ (size_of_block bk)).trans bk
    replace bc := (hF.block _ (size_of_block bc)).trans bc
    replace bt := (hF.block _ (size_of_block bt)).trans bt
    replace bx := (hF.block _ (size_of_block bx)).trans bx
    replace hO0 := own_later hO0 hF
    replace hO1 := own_later hO1 hF
    replace hO2 := own_later hO2 hF
    replace hOC := own_later hOC hF
    replace hB := below_then hB hF
    clear hF
    rw [HCC.out]
    go_wp2_with fail
    go_ret
    exact ⟨rfl, hB⟩
  · have cbk0 := Joins.cell_of_block bk 0
    have cbk1 := Joins.cell_of_block bk 1
    have cbk2 := Joins.cell_of_block bk 2
    have cbk3 := Joins.cell_of_block bk 3
    have cbk4 := Joins.cell_of_block bk 4
    have zbk := size_of_block bk
    have cbc0 := Joins.cell_of_block bc 0
    have cbc1 := Joins.cell_of_block bc 1
    have cbc2 := Joins.cell_of_block bc 2
    have cbc3 := Joins.cell_of_block bc 3
    have zbc := size_of_block bc
    go_wp2_with fail
    refine (HA.out w10 (HK.out.later hB) (HP.out.later hB) (HT.out.later hB)).mono ?_
    rintro e w11 ⟨rfl, hF⟩
    clear cbk0 cbk1 cbk2 cbk3 cbk4 zbk cbc0 cbc1 cbc2 cbc3 zbc
    replace bk := (hF.block _ (size_of_block bk)).trans bk
    replace bc := (hF.block _ (size_of_block bc)).trans bc
    replace bt := (hF.block _ (size_of_block bt)).trans bt
    replace bx := (hF.block _ (size_of_block bx)).trans bx
    replace hO0 := own_later hO0 hF
    replace hO1 := own_later hO1 hF
    replace hO2 := own_later hO2 hF
    replace hOC := own_later hOC hF
    replace hB := below_then hB hF
    clear hF
    go_wp2_with fail
    refine (sanity_c _).mono ?_
    rintro e w12 ⟨rfl, hF⟩
    replace bk := (hF.block _ (size_of_block bk)).trans bk
    replace bc := (hF.block _ (size_of_block bc)).trans bc
    replace bt := (hF.block _ (size_of_block bt)).trans bt
    replace bx := (hF.block _ (size_of_block bx)).trans bx
    replace hO0 := own_later hO0 hF
    replace hO1 := own_later hO1 hF
    replace hO2 := own_later hO2 hF
    replace hOC := own_later hOC hF
    replace hB := below_then hB hF
    clear hF
    have cbk0 := Joins.cell_of_block bk 0
    have cbk1 := Joins.cell_of_block bk 1
    have cbk2 := Joins.cell_of_block bk 2
    have cbk3 := Joins.cell_of_block bk 3
    have cbk4 := Joins.cell_of_block bk 4
    have zbk := size_of_block bk
    go_wp2_with fail
    refine (CheckClash_c k (.agg #[.int .i64 k.room, .int .i64 k.per, .slice A1 k.ls.length c1, .slice A2 k.ds.length c2, .slice A3 k.ws.length c3]) uc pc w12 (HK.out.later hB) (Ints.of_own hOC (by omega))).mono ?_
    rintro e w13 ⟨rfl, hF⟩
    clear cbk0 cbk1 cbk2 cbk3 cbk4 zbk
    replace bk := (hF.block _ (size_of_block bk)).trans bk
    replace bc := (hF.block _ (size_of_block bc)).trans bc
    replace bt := (hF.block _ (size_of_block bt)).trans bt
    replace bx := (hF.block _ (size_of_block bx)).trans bx
    replace hO0 := own_later hO0 hF
    replace hO1 := own_later hO1 hF
    replace hO2 := own_later hO2 hF
    replace hOC := own_later hOC hF
    replace hB := below_then hB hF
    clear hF
    rw [HCC.out]
    go_wp2_with fail
    go_ret
    exact ⟨rfl, hB⟩
set_option maxRecDepth 100000 in
set_option maxHeartbeats 8000000 in
theorem SProves_can (k : Kl) (A1 A2 A3 : Option Addr) (c1 c2 c3 : Nat) (a b : Nat) (m : Int) (P0 : Option Addr) (l0 e0 : Nat) (P1 : Option Addr) (l1 e1 : Nat) (P2 : Option Addr) (l2 e2 : Nat) (T1 : Option Addr) (l3 e3 : Nat) (T2 : Option Addr) (l4 e4 : Nat) (I0 : Option Addr) (l5 e5 : Nat) (w : World) (hk : Kiln w (.agg #[.int .i64 k.room, .int .i64 k.per, .slice A1 k.ls.length c1, .slice A2 k.ds.length c2, .slice A3 k.ws.length c3]) k) (hf : fewB3 k.ls.length k.ds.length k.ws.length = true) (ha : a ≤ 255) (hb9 : b ≤ 255) (hc : checkI k = 0) (p tl td xl xd li : List Int) (g0 : l5 ≤ 250) (g1 : l0 ≤ 250) (g2 : l1 ≤ 60) (g3 : l2 ≤ 60) (g4 : l3 ≤ 60) (g5 : l4 ≤ 60) (hp : Ints w w.heap.size (.slice P0 l0 e0) p) (ht : Truth w (.agg #[.slice P1 l1 e1, .slice P2 l2 e2]) tl td) (hx : Truth w (.agg #[.slice T1 l3 e3, .slice T2 l4 e4]) xl xd) (hi : Ints w w.heap.size (.slice I0 l5 e5) li) (hcan : canB (tiesL k) = true) : Calls Tryz.prog 10 #[.agg #[.int .i64 k.room, .int .i64 k.per, .slice A1 k.ls.length c1, .slice A2 k.ds.length c2, .slice A3 k.ws.length c3], .int .u8 a, .int .u8 b, .agg #[.int .i64 m, .slice P0 l0 e0, .slice P1 l1 e1, .slice P2 l2 e2], .agg #[.slice T1 l3 e3, .slice T2 l4 e4], .slice I0 l5 e5] w fun e w' => e = .returned (.bool true) ∧ Below w.heap.size w w' := by
  have HR := Lib.hid (right_of_check hc)
  have hcB : (checkI k == 0) = true := by rw [hc]; rfl
  obtain ⟨ha1, ha2, dz⟩ := mark_mod (k := k) a (by omega)
  have ha4 := mark_emod (k := k) a
  obtain ⟨a', ha3⟩ : ∃ x, x = a % mN k := ⟨_, rfl⟩
  rw [← ha3] at ha1 ha2 ha4
  clear ha3
  obtain ⟨hb1, hb2, dz⟩ := mark_mod (k := k) b (by omega)
  have hb4 := mark_emod (k := k) b
  obtain ⟨b', hb3⟩ : ∃ x, x = b % mN k := ⟨_, rfl⟩
  rw [← hb3] at hb1 hb2 hb4
  clear hb3
  have yX := fun W h => Above_f k (.agg #[.int .i64 k.room, .int .i64 k.per, .slice A1 k.ls.length c1, .slice A2 k.ds.length c2, .slice A3 k.ws.length c3]) a' b' W h
  have hme := mostE_ok hc ha2 hb2
  rw [if_pos hcan] at hme
  rw [hme] at yX
  clear hme
  have yC := fun W h => Clash_c k (.agg #[.int .i64 k.room, .int .i64 k.per, .slice A1 k.ls.length c1, .slice A2 k.ds.length c2, .slice A3 k.ws.length c3]) W h
  have hcl : clashB k = false := by unfold clashB; rw [hcB]; simpa using hcan
  rw [hcl, hc] at yC
  clear hcl
  have yF := fun W h ht => Fits_c k (.agg #[.int .i64 k.room, .int .i64 k.per, .slice A1 k.ls.length c1, .slice A2 k.ds.length c2, .slice A3 k.ws.length c3]) (.agg #[.slice T1 l3 e3, .slice T2 l4 e4]) xl xd W h ht
  have yK := fun W h hi => CheckClash_c k (.agg #[.int .i64 k.room, .int .i64 k.per, .slice A1 k.ls.length c1, .slice A2 k.ds.length c2, .slice A3 k.ws.length c3]) (.slice I0 l5 e5) li W h hi
  have yA := fun W h hp ht => CheckAbove_d k (.agg #[.int .i64 k.room, .int .i64 k.per, .slice A1 k.ls.length c1, .slice A2 k.ds.length c2, .slice A3 k.ws.length c3]) P0 P1 P2 l0 e0 l1 e1 l2 e2 a' b' m p tl td W h hp ht
  have hca := canB_true.1 hcan
  have hnc : clashI k li ≠ 0 := fun h => clash_cant h hca
  obtain ⟨CI, hCI⟩ : ∃ x, x = clashI k li := ⟨_, rfl⟩
  rw [← hCI] at yK hnc
  have dCI : (CI == 0) = false := by simpa using hnc
  clear hCI
  obtain ⟨FB, hFB⟩ : ∃ x, x = fitsB k xl xd := ⟨_, rfl⟩
  rw [← hFB] at yF
  clear hFB
  have hAC : aboveC k a' b' m p tl td = 0 → m = dst (tiesL k) a' b' := fun h => (above_ok h).2.symm
  obtain ⟨AC, hAC2⟩ : ∃ x, x = aboveC k a' b' m p tl td := ⟨_, rfl⟩
  rw [← hAC2] at yA hAC
  clear hAC2
  have HMM := Lib.hid (marks_ok hc ha2 hb2)
  have HA2 := Lib.hid ha2
  have HB2 := Lib.hid hb2
  have HC0 := Lib.hid hc
  obtain ⟨MX, hMX⟩ : ∃ x, x = dst (tiesL k) a' b' := ⟨_, rfl⟩
  rw [← hMX] at yX hAC
  clear hMX
  have HACC := Lib.hid hAC
  clear hAC hca hcan hnc
  obtain ⟨FN, hFN⟩ : ∃ x, x = fitsN k xl xd := ⟨_, rfl⟩
  obtain ⟨FE, hFE⟩ : ∃ x, x = fitsE k xl xd := ⟨_, rfl⟩
  rw [← hFN, ← hFE] at yF
  clear hFN hFE
  have HX := Lib.hid yX
  clear yX
  have HC := Lib.hid yC
  clear yC
  have HF := Lib.hid yF
  clear yF
  have HKK := Lib.hid yK
  clear yK
  have HA := Lib.hid yA
  clear yA
  have yM := fun W => lmarks_c k A1 A2 A3 c1 c2 c3 W HR.out
  obtain ⟨NN, hNN⟩ : ∃ x, x = marksN k := ⟨_, rfl⟩
  rw [← hNN] at yM ha1 hb1 ha4 hb4 dz
  have HM := Lib.hid yM
  clear yM hNN ha2 hb2
  have HP := Lib.hid hp
  have HT := Lib.hid ht
  have HX9 := Lib.hid hx
  have HI9 := Lib.hid hi
  clear hp ht hx hi
  have d0 : decide ((l5 : Int) > 250) = false := decide_eq_false (by omega)
  have d1 : decide ((l0 : Int) > 250) = false := decide_eq_false (by omega)
  have d2 : decide ((l1 : Int) > 60) = false := decide_eq_false (by omega)
  have d3 : decide ((l2 : Int) > 60) = false := decide_eq_false (by omega)
  have d4 : decide ((l3 : Int) > 60) = false := decide_eq_false (by omega)
  have d5 : decide ((l4 : Int) > 60) = false := decide_eq_false (by omega)
  have HG := Lib.hid (⟨g0, g1, g2, g3, g4, g5⟩ : l5 ≤ 250 ∧ l0 ≤ 250 ∧ l1 ≤ 60 ∧ l2 ≤ 60 ∧ l3 ≤ 60 ∧ l4 ≤ 60)
  have HK := Lib.hid hk
  clear hk
  go_enter Tryz.func10, Tryz.ntmps10
  obtain ⟨bk, bc, bt, -, HB⟩ := three_new w (.cells #[.int .i64 k.room, .int .i64 k.per, .slice A1 k.ls.length c1, .slice A2 k.ds.length c2, .slice A3 k.ws.length c3] 26) (.cells #[.int .i64 m, .slice P0 l0 e0, .slice P1 l1 e1, .slice P2 l2 e2] 54) (.cells #[.slice T1 l3 e3, .slice T2 l4 e4] 29)
  have cbk0 := Joins.cell_of_block bk 0
  have cbk1 := Joins.cell_of_block bk 1
  have cbk2 := Joins.cell_of_block bk 2
  have cbk3 := Joins.cell_of_block bk 3
  have cbk4 := Joins.cell_of_block bk 4
  have zbk := size_of_block bk
  go_wp2_with fail
  generalize (((w.alloc (.cells #[.int .i64 k.room, .int .i64 k.per, .slice A1 k.ls.length c1, .slice A2 k.ds.length c2, .slice A3 k.ws.length c3] 26)).alloc (.cells #[.int .i64 m, .slice P0 l0 e0, .slice P1 l1 e1, .slice P2 l2 e2] 54)).alloc (.cells #[.slice T1 l3 e3, .slice T2 l4 e4] 29)) = w1 at bk bc bt HB cbk0 cbk1 cbk2 cbk3 cbk4 zbk ⊢
  have hB := HB
  clear HB
  refine (lfew_c k.room k.per A1 A2 A3 k.ls.length c1 k.ds.length c2 k.ws.length c3 _).mono ?_
  rintro e w2 ⟨rfl, hF⟩
  clear cbk0 cbk1 cbk2 cbk3 cbk4 zbk
  replace bk := (hF.block _ (size_of_block bk)).trans bk
  replace bc := (hF.block _ (size_of_block bc)).trans bc
  replace bt := (hF.block _ (size_of_block bt)).trans bt
  replace hB := below_then hB hF
  clear hF
  rw [hf]
  have cbk0 := Joins.cell_of_block bk 0
  have cbk1 := Joins.cell_of_block bk 1
  have cbk2 := Joins.cell_of_block bk 2
  have cbk3 := Joins.cell_of_block bk 3
  have cbk4 := Joins.cell_of_block bk 4
  have zbk := size_of_block bk
  go_wp2_with fail
  refine (check_c k _ w2 (HK.out.later hB)).mono ?_
  rintro e w3 ⟨rfl, hF⟩
  clear cbk0 cbk1 cbk2 cbk3 cbk4 zbk
  replace bk := (hF.block _ (size_of_block bk)).trans bk
  replace bc := (hF.block _ (size_of_block bc)).trans bc
  replace bt := (hF.block _ (size_of_block bt)).trans bt
  replace hB := below_then hB hF
  clear hF
  rw [hc]
  clear hcB hc
  have cbc0 := Joins.cell_of_block bc 0
  have cbc1 := Joins.cell_of_block bc 1
  have cbc2 := Joins.cell_of_block bc 2
  have cbc3 := Joins.cell_of_block bc 3
  have zbc := size_of_block bc
  have cbt0 := Joins.cell_of_block bt 0
  have cbt1 := Joins.cell_of_block bt 1
  have zbt := size_of_block bt
  have cbk0 := Joins.cell_of_block bk 0
  have cbk1 := Joins.cell_of_block bk 1
  have cbk2 := Joins.cell_of_block bk 2
  have cbk3 := Joins.cell_of_block bk 3
  have cbk4 := Joins.cell_of_block bk 4
  have zbk := size_of_block bk
  go_wp2_with fail
  all_goals (try (exfalso; omega))
  refine (HM.out _).mono ?_
  rintro e w4 ⟨rfl, hF⟩
  clear cbc0 cbc1 cbc2 cbc3 zbc cbt0 cbt1 zbt cbk0 cbk1 cbk2 cbk3 cbk4 zbk
  replace bk := (hF.block _ (size_of_block bk)).trans bk
  replace bc := (hF.block _ (size_of_block bc)).trans bc
  replace bt := (hF.block _ (size_of_block bt)).trans bt
  replace hB := below_then hB hF
  clear hF
  have cbk0 := Joins.cell_of_block bk 0
  have cbk1 := Joins.cell_of_block bk 1
  have cbk2 := Joins.cell_of_block bk 2
  have cbk3 := Joins.cell_of_block bk 3
  have cbk4 := Joins.cell_of_block bk 4
  have zbk := size_of_block bk
  go_wp2_with fail
  refine (HM.out _).mono ?_
  rintro e w5 ⟨rfl, hF⟩
  clear cbk0 cbk1 cbk2 cbk3 cbk4 zbk
  replace bk := (hF.block _ (size_of_block bk)).trans bk
  replace bc := (hF.block _ (size_of_block bc)).trans bc
  replace bt := (hF.block _ (size_of_block bt)).trans bt
  replace hB := below_then hB hF
  clear hF
  have cbk0 := Joins.cell_of_block bk 0
  have cbk1 := Joins.cell_of_block bk 1
  have cbk2 := Joins.cell_of_block bk 2
  have cbk3 := Joins.cell_of_block bk 3
  have cbk4 := Joins.cell_of_block bk 4
  have zbk := size_of_block bk
  go_wp2_with fail
  refine (HX.out w5 (HK.out.later hB)).mono ?_
  rintro e w6 ⟨X0, Xc0, X1, Xc1, X2, Xc2, Xpp, Xtl, Xtd, rfl, ⟨hO0, hO1, hO2, hAI, hNI⟩, hF⟩
  clear cbk0 cbk1 cbk2 cbk3 cbk4 zbk
  replace bk := (hF.block _ (size_of_block bk)).trans bk
  replace bc := (hF.block _ (size_of_block bc)).trans bc
  replace bt := (hF.block _ (size_of_block bt)).trans bt
  replace hB := below_then hB hF
  clear hF
  clear hNI
  have HAI := Lib.hid hAI
  clear hAI
  have bx := heap_alloc_new w6 (.cells #[.int .i64 MX, .slice X0 Xpp.length Xc0, .slice X1 Xtl.length Xc1, .slice X2 Xtd.length Xc2] 54)
  have HB := below_alloc w6 (.cells #[.int .i64 MX, .slice X0 Xpp.length Xc0, .slice X1 Xtl.length Xc1, .slice X2 Xtd.length Xc2] 54)
  have cbk0 := Joins.cell_of_block ((HB.block _ (size_of_block bk)).trans bk) 0
  have cbk1 := Joins.cell_of_block ((HB.block _ (size_of_block bk)).trans bk) 1
  have cbk2 := Joins.cell_of_block ((HB.block _ (size_of_block bk)).trans bk) 2
  have cbk3 := Joins.cell_of_block ((HB.block _ (size_of_block bk)).trans bk) 3
  have cbk4 := Joins.cell_of_block ((HB.block _ (size_of_block bk)).trans bk) 4
  have zbk := size_of_block bk
  go_wp2_with fail
  generalize (w6.alloc (.cells #[.int .i64 MX, .slice X0 Xpp.length Xc0, .slice X1 Xtl.length Xc1, .slice X2 Xtd.length Xc2] 54)) = w7 at bx HB cbk0 cbk1 cbk2 cbk3 cbk4 ⊢
  replace bk := (HB.block _ (size_of_block bk)).trans bk
  replace bc := (HB.block _ (size_of_block bc)).trans bc
  replace bt := (HB.block _ (size_of_block bt)).trans bt
  replace hO0 := own_later hO0 HB
  replace hO1 := own_later hO1 HB
  replace hO2 := own_later hO2 HB
  replace hB := below_then hB HB
  clear HB
  refine (HC.out w7 (HK.out.later hB)).mono ?_
  rintro e w8 ⟨uc, pc, rfl, _, _, _, hF⟩
  clear cbk0 cbk1 cbk2 cbk3 cbk4 zbk
  replace bk := (hF.block _ (size_of_block bk)).trans bk
  replace bc := (hF.block _ (size_of_block bc)).trans bc
  replace bt := (hF.block _ (size_of_block bt)).trans bt
  replace bx := (hF.block _ (size_of_block bx)).trans bx
  replace hO0 := own_later hO0 hF
  replace hO1 := own_later hO1 hF
  replace hO2 := own_later hO2 hF
  replace hB := below_then hB hF
  clear hF
  have cbk0 := Joins.cell_of_block bk 0
  have cbk1 := Joins.cell_of_block bk 1
  have cbk2 := Joins.cell_of_block bk 2
  have cbk3 := Joins.cell_of_block bk 3
  have cbk4 := Joins.cell_of_block bk 4
  have zbk := size_of_block bk
  have cbt0 := Joins.cell_of_block bt 0
  have cbt1 := Joins.cell_of_block bt 1
  have zbt := size_of_block bt
  go_wp2_with fail
  refine (HF.out w8 (HK.out.later hB) (HX9.out.later hB)).mono ?_
  rintro e w9 ⟨rfl, hF⟩
  clear cbk0 cbk1 cbk2 cbk3 cbk4 zbk cbt0 cbt1 zbt
  replace bk := (hF.block _ (size_of_block bk)).trans bk
  replace bc := (hF.block _ (size_of_block bc)).trans bc
  replace bt := (hF.block _ (size_of_block bt)).trans bt
  replace bx := (hF.block _ (size_of_block bx)).trans bx
  replace hO0 := own_later hO0 hF
  replace hO1 := own_later hO1 hF
  replace hO2 := own_later hO2 hF
  replace hB := below_then hB hF
  clear hF
  have cbk0 := Joins.cell_of_block bk 0
  have cbk1 := Joins.cell_of_block bk 1
  have cbk2 := Joins.cell_of_block bk 2
  have cbk3 := Joins.cell_of_block bk 3
  have cbk4 := Joins.cell_of_block bk 4
  have zbk := size_of_block bk
  go_wp2_with fail
  refine (HKK.out w9 (HK.out.later hB) (HI9.out.later hB)).mono ?_
  rintro e w10 ⟨rfl, hF⟩
  clear cbk0 cbk1 cbk2 cbk3 cbk4 zbk
  replace bk := (hF.block _ (size_of_block bk)).trans bk
  replace bc := (hF.block _ (size_of_block bc)).trans bc
  replace bt := (hF.block _ (size_of_block bt)).trans bt
  replace bx := (hF.block _ (size_of_block bx)).trans bx
  replace hO0 := own_later hO0 hF
  replace hO1 := own_later hO1 hF
  replace hO2 := own_later hO2 hF
  replace hB := below_then hB hF
  clear hF
  cases FB
  · have cbk0 := Joins.cell_of_block bk 0
    have cbk1 := Joins.cell_of_block bk 1
    have cbk2 := Joins.cell_of_block bk 2
    have cbk3 := Joins.cell_of_block bk 3
    have cbk4 := Joins.cell_of_block bk 4
    have zbk := size_of_block bk
    have cbc0 := Joins.cell_of_block bc 0
    have cbc1 := Joins.cell_of_block bc 1
    have cbc2 := Joins.cell_of_block bc 2
    have cbc3 := Joins.cell_of_block bc 3
    have zbc := size_of_block bc
    go_wp2_with fail
    refine (HA.out w10 (HK.out.later hB) (HP.out.later hB) (HT.out.later hB)).mono ?_
    rintro e w11 ⟨rfl, hF⟩
    clear cbk0 cbk1 cbk2 cbk3 cbk4 zbk cbc0 cbc1 cbc2 cbc3 zbc
    replace bk := (hF.block _ (size_of_block bk)).trans bk
    replace bc := (hF.block _ (size_of_block bc)).trans bc
    replace bt := (hF.block _ (size_of_block bt)).trans bt
    replace bx := (hF.block _ (size_of_block bx)).trans bx
    replace hO0 := own_later hO0 hF
    replace hO1 := own_later hO1 hF
    replace hO2 := own_later hO2 hF
    replace hB := below_then hB hF
    clear hF
    by_cases hac : AC = 0
    · have hmm := HACC.out hac
      have dAC : (AC == 0) = true := by simpa using hac
      clear hac
      go_wp2_with fail
      refine (sanity_c _).mono ?_
      rintro e w12 ⟨rfl, hF⟩
      replace bk := (hF.block _ (size_of_block bk)).trans bk
      replace bc := (hF.block _ (size_of_block bc)).trans bc
      replace bt := (hF.block _ (size_of_block bt)).trans bt
      replace bx := (hF.block _ (size_of_block bx)).trans bx
      replace hO0 := own_later hO0 hF
      replace hO1 := own_later hO1 hF
      replace hO2 := own_later hO2 hF
      replace hB := below_then hB hF
      clear hF
      have cbk0 := Joins.cell_of_block bk 0
      have cbk1 := Joins.cell_of_block bk 1
      have cbk2 := Joins.cell_of_block bk 2
      have cbk3 := Joins.cell_of_block bk 3
      have cbk4 := Joins.cell_of_block bk 4
      have zbk := size_of_block bk
      have cbx0 := Joins.cell_of_block bx 0
      have cbx1 := Joins.cell_of_block bx 1
      have cbx2 := Joins.cell_of_block bx 2
      have cbx3 := Joins.cell_of_block bx 3
      have zbx := size_of_block bx
      go_wp2_with fail
      obtain ⟨z1, z2⟩ : Xpp.length ≤ 41 ∧ Xtl.length ≤ 20 ∧ Xtd.length ≤ 20 := by
        obtain ⟨_, q2, q3, _⟩ := above_facts HR.out HA2.out HB2.out (HAI.out trivial)
        have q4 := (wtsB_iff.1 q3.1).1
        have q5 := (wtsB_iff.1 q3.2.1).1
        have := HR.out.ls
        have := HR.out.ds
        omega
      refine (CheckAbove_d k (.agg #[.int .i64 k.room, .int .i64 k.per, .slice A1 k.ls.length c1, .slice A2 k.ds.length c2, .slice A3 k.ws.length c3]) X0 X1 X2 Xpp.length Xc0 Xtl.length Xc1 Xtd.length Xc2 a' b' MX Xpp Xtl Xtd w12 (HK.out.later hB) (Ints.of_own hO0 (by omega)) ⟨_, _, rfl, Ints.of_own hO1 (by omega), Ints.of_own hO2 (by omega)⟩).mono ?_
      rintro e w13 ⟨rfl, hF⟩
      clear cbk0 cbk1 cbk2 cbk3 cbk4 zbk cbx0 cbx1 cbx2 cbx3 zbx
      replace bk := (hF.block _ (size_of_block bk)).trans bk
      replace bc := (hF.block _ (size_of_block bc)).trans bc
      replace bt := (hF.block _ (size_of_block bt)).trans bt
      replace bx := (hF.block _ (size_of_block bx)).trans bx
      replace hO0 := own_later hO0 hF
      replace hO1 := own_later hO1 hF
      replace hO2 := own_later hO2 hF
      replace hB := below_then hB hF
      clear hF
      rw [above_accepts HC0.out HMM.out HA2.out HB2.out (HAI.out trivial)]
      have cbc0 := Joins.cell_of_block bc 0
      have zbc := size_of_block bc
      have cbx0 := Joins.cell_of_block bx 0
      have zbx := size_of_block bx
      have hm2 : (m == MX) = true := by simpa using hmm
      go_wp2_with fail
      go_ret
      exact ⟨rfl, hB⟩
    · have dAC : (AC == 0) = false := by simpa using hac
      clear hac
      go_wp2_with fail
      refine (sanity_c _).mono ?_
      rintro e w12 ⟨rfl, hF⟩
      replace bk := (hF.block _ (size_of_block bk)).trans bk
      replace bc := (hF.block _ (size_of_block bc)).trans bc
      replace bt := (hF.block _ (size_of_block bt)).trans bt
      replace bx := (hF.block _ (size_of_block bx)).trans bx
      replace hO0 := own_later hO0 hF
      replace hO1 := own_later hO1 hF
      replace hO2 := own_later hO2 hF
      replace hB := below_then hB hF
      clear hF
      have cbk0 := Joins.cell_of_block bk 0
      have cbk1 := Joins.cell_of_block bk 1
      have cbk2 := Joins.cell_of_block bk 2
      have cbk3 := Joins.cell_of_block bk 3
      have cbk4 := Joins.cell_of_block bk 4
      have zbk := size_of_block bk
      have cbx0 := Joins.cell_of_block bx 0
      have cbx1 := Joins.cell_of_block bx 1
      have cbx2 := Joins.cell_of_block bx 2
      have cbx3 := Joins.cell_of_block bx 3
      have zbx := size_of_block bx
      go_wp2_with fail
      obtain ⟨z1, z2⟩ : Xpp.length ≤ 41 ∧ Xtl.length ≤ 20 ∧ Xtd.length ≤ 20 := by
        obtain ⟨_, q2, q3, _⟩ := above_facts HR.out HA2.out HB2.out (HAI.out trivial)
        have q4 := (wtsB_iff.1 q3.1).1
        have q5 := (wtsB_iff.1 q3.2.1).1
        have := HR.out.ls
        have := HR.out.ds
        omega
      refine (CheckAbove_d k (.agg #[.int .i64 k.room, .int .i64 k.per, .slice A1 k.ls.length c1, .slice A2 k.ds.length c2, .slice A3 k.ws.length c3]) X0 X1 X2 Xpp.length Xc0 Xtl.length Xc1 Xtd.length Xc2 a' b' MX Xpp Xtl Xtd w12 (HK.out.later hB) (Ints.of_own hO0 (by omega)) ⟨_, _, rfl, Ints.of_own hO1 (by omega), Ints.of_own hO2 (by omega)⟩).mono ?_
      rintro e w13 ⟨rfl, hF⟩
      clear cbk0 cbk1 cbk2 cbk3 cbk4 zbk cbx0 cbx1 cbx2 cbx3 zbx
      replace bk := (hF.block _ (size_of_block bk)).trans bk
      replace bc := (hF.block _ (size_of_block bc)).trans bc
      replace bt := (hF.block _ (size_of_block bt)).trans bt
      replace bx := (hF.block _ (size_of_block bx)).trans bx
      replace hO0 := own_later hO0 hF
      replace hO1 := own_later hO1 hF
      replace hO2 := own_later hO2 hF
      replace hB := below_then hB hF
      clear hF
      rw [above_accepts HC0.out HMM.out HA2.out HB2.out (HAI.out trivial)]
      have cbc0 := Joins.cell_of_block bc 0
      have zbc := size_of_block bc
      have cbx0 := Joins.cell_of_block bx 0
      have zbx := size_of_block bx
      go_wp2_with fail
      go_ret
      exact ⟨rfl, hB⟩
  · have cbk0 := Joins.cell_of_block bk 0
    have cbk1 := Joins.cell_of_block bk 1
    have cbk2 := Joins.cell_of_block bk 2
    have cbk3 := Joins.cell_of_block bk 3
    have cbk4 := Joins.cell_of_block bk 4
    have zbk := size_of_block bk
    have cbc0 := Joins.cell_of_block bc 0
    have cbc1 := Joins.cell_of_block bc 1
    have cbc2 := Joins.cell_of_block bc 2
    have cbc3 := Joins.cell_of_block bc 3
    have zbc := size_of_block bc
    go_wp2_with fail
    refine (HA.out w10 (HK.out.later hB) (HP.out.later hB) (HT.out.later hB)).mono ?_
    rintro e w11 ⟨rfl, hF⟩
    clear cbk0 cbk1 cbk2 cbk3 cbk4 zbk cbc0 cbc1 cbc2 cbc3 zbc
    replace bk := (hF.block _ (size_of_block bk)).trans bk
    replace bc := (hF.block _ (size_of_block bc)).trans bc
    replace bt := (hF.block _ (size_of_block bt)).trans bt
    replace bx := (hF.block _ (size_of_block bx)).trans bx
    replace hO0 := own_later hO0 hF
    replace hO1 := own_later hO1 hF
    replace hO2 := own_later hO2 hF
    replace hB := below_then hB hF
    clear hF
    by_cases hac : AC = 0
    · have hmm := HACC.out hac
      have dAC : (AC == 0) = true := by simpa using hac
      clear hac
      go_wp2_with fail
      refine (sanity_c _).mono ?_
      rintro e w12 ⟨rfl, hF⟩
      replace bk := (hF.block _ (size_of_block bk)).trans bk
      replace bc := (hF.block _ (size_of_block bc)).trans bc
      replace bt := (hF.block _ (size_of_block bt)).trans bt
      replace bx := (hF.block _ (size_of_block bx)).trans bx
      replace hO0 := own_later hO0 hF
      replace hO1 := own_later hO1 hF
      replace hO2 := own_later hO2 hF
      replace hB := below_then hB hF
      clear hF
      have cbk0 := Joins.cell_of_block bk 0
      have cbk1 := Joins.cell_of_block bk 1
      have cbk2 := Joins.cell_of_block bk 2
      have cbk3 := Joins.cell_of_block bk 3
      have cbk4 := Joins.cell_of_block bk 4
      have zbk := size_of_block bk
      have cbx0 := Joins.cell_of_block bx 0
      have cbx1 := Joins.cell_of_block bx 1
      have cbx2 := Joins.cell_of_block bx 2
      have cbx3 := Joins.cell_of_block bx 3
      have zbx := size_of_block bx
      go_wp2_with fail
      obtain ⟨z1, z2⟩ : Xpp.length ≤ 41 ∧ Xtl.length ≤ 20 ∧ Xtd.length ≤ 20 := by
        obtain ⟨_, q2, q3, _⟩ := above_facts HR.out HA2.out HB2.out (HAI.out trivial)
        have q4 := (wtsB_iff.1 q3.1).1
        have q5 := (wtsB_iff.1 q3.2.1).1
        have := HR.out.ls
        have := HR.out.ds
        omega
      refine (CheckAbove_d k (.agg #[.int .i64 k.room, .int .i64 k.per, .slice A1 k.ls.length c1, .slice A2 k.ds.length c2, .slice A3 k.ws.length c3]) X0 X1 X2 Xpp.length Xc0 Xtl.length Xc1 Xtd.length Xc2 a' b' MX Xpp Xtl Xtd w12 (HK.out.later hB) (Ints.of_own hO0 (by omega)) ⟨_, _, rfl, Ints.of_own hO1 (by omega), Ints.of_own hO2 (by omega)⟩).mono ?_
      rintro e w13 ⟨rfl, hF⟩
      clear cbk0 cbk1 cbk2 cbk3 cbk4 zbk cbx0 cbx1 cbx2 cbx3 zbx
      replace bk := (hF.block _ (size_of_block bk)).trans bk
      replace bc := (hF.block _ (size_of_block bc)).trans bc
      replace bt := (hF.block _ (size_of_block bt)).trans bt
      replace bx := (hF.block _ (size_of_block bx)).trans bx
      replace hO0 := own_later hO0 hF
      replace hO1 := own_later hO1 hF
      replace hO2 := own_later hO2 hF
      replace hB := below_then hB hF
      clear hF
      rw [above_accepts HC0.out HMM.out HA2.out HB2.out (HAI.out trivial)]
      have cbc0 := Joins.cell_of_block bc 0
      have zbc := size_of_block bc
      have cbx0 := Joins.cell_of_block bx 0
      have zbx := size_of_block bx
      have hm2 : (m == MX) = true := by simpa using hmm
      go_wp2_with fail
      go_ret
      exact ⟨rfl, hB⟩
    · have dAC : (AC == 0) = false := by simpa using hac
      clear hac
      go_wp2_with fail
      refine (sanity_c _).mono ?_
      rintro e w12 ⟨rfl, hF⟩
      replace bk := (hF.block _ (size_of_block bk)).trans bk
      replace bc := (hF.block _ (size_of_block bc)).trans bc
      replace bt := (hF.block _ (size_of_block bt)).trans bt
      replace bx := (hF.block _ (size_of_block bx)).trans bx
      replace hO0 := own_later hO0 hF
      replace hO1 := own_later hO1 hF
      replace hO2 := own_later hO2 hF
      replace hB := below_then hB hF
      clear hF
      have cbk0 := Joins.cell_of_block bk 0
      have cbk1 := Joins.cell_of_block bk 1
      have cbk2 := Joins.cell_of_block bk 2
      have cbk3 := Joins.cell_of_block bk 3
      have cbk4 := Joins.cell_of_block bk 4
      have zbk := size_of_block bk
      have cbx0 := Joins.cell_of_block bx 0
      have cbx1 := Joins.cell_of_block bx 1
      have cbx2 := Joins.cell_of_block bx 2
      have cbx3 := Joins.cell_of_block bx 3
      have zbx := size_of_block bx
      go_wp2_with fail
      obtain ⟨z1, z2⟩ : Xpp.length ≤ 41 ∧ Xtl.length ≤ 20 ∧ Xtd.length ≤ 20 := by
        obtain ⟨_, q2, q3, _⟩ := above_facts HR.out HA2.out HB2.out (HAI.out trivial)
        have q4 := (wtsB_iff.1 q3.1).1
        have q5 := (wtsB_iff.1 q3.2.1).1
        have := HR.out.ls
        have := HR.out.ds
        omega
      refine (CheckAbove_d k (.agg #[.int .i64 k.room, .int .i64 k.per, .slice A1 k.ls.length c1, .slice A2 k.ds.length c2, .slice A3 k.ws.length c3]) X0 X1 X2 Xpp.length Xc0 Xtl.length Xc1 Xtd.length Xc2 a' b' MX Xpp Xtl Xtd w12 (HK.out.later hB) (Ints.of_own hO0 (by omega)) ⟨_, _, rfl, Ints.of_own hO1 (by omega), Ints.of_own hO2 (by omega)⟩).mono ?_
      rintro e w13 ⟨rfl, hF⟩
      clear cbk0 cbk1 cbk2 cbk3 cbk4 zbk cbx0 cbx1 cbx2 cbx3 zbx
      replace bk := (hF.block _ (size_of_block bk)).trans bk
      replace bc := (hF.block _ (size_of_block bc)).trans bc
      replace bt := (hF.block _ (size_of_block bt)).trans bt
      replace bx := (hF.block _ (size_of_block bx)).trans bx
      replace hO0 := own_later hO0 hF
      replace hO1 := own_later hO1 hF
      replace hO2 := own_later hO2 hF
      replace hB := below_then hB hF
      clear hF
      rw [above_accepts HC0.out HMM.out HA2.out HB2.out (HAI.out trivial)]
      have cbc0 := Joins.cell_of_block bc 0
      have zbc := size_of_block bc
      have cbx0 := Joins.cell_of_block bx 0
      have zbx := size_of_block bx
      go_wp2_with fail
      go_ret
      exact ⟨rfl, hB⟩
theorem ShaftProves_w (rm pr : Int) (A1 : Option Addr) (n1 c1 : Nat) (A2 : Option Addr) (n2 c2 : Nat) (A3 : Option Addr) (n3 c3 : Nat) (a b : Nat) (m : Int) (P0 : Option Addr) (l0 e0 : Nat) (P1 : Option Addr) (l1 e1 : Nat) (P2 : Option Addr) (l2 e2 : Nat) (T1 : Option Addr) (l3 e3 : Nat) (T2 : Option Addr) (l4 e4 : Nat) (I0 : Option Addr) (l5 e5 : Nat) (w : World)
    (hk : (∃ k : Kl, k.room = rm ∧ k.per = pr ∧ k.ls.length = n1 ∧ k.ds.length = n2 ∧ k.ws.length = n3 ∧ Kiln w (.agg #[.int .i64 rm, .int .i64 pr, .slice A1 n1 c1, .slice A2 n2 c2, .slice A3 n3 c3]) k) ∨ 140737488355328 < n1 ∨ 140737488355328 < n2 ∨ 140737488355328 < n3) (ha : a ≤ 255) (hb : b ≤ 255)
    (hch : (∃ pp tl td : List Int, pp.length = l0 ∧ tl.length = l1 ∧ td.length = l2 ∧ Ints w w.heap.size (.slice P0 l0 e0) pp ∧ Truth w (.agg #[.slice P1 l1 e1, .slice P2 l2 e2]) tl td) ∨ 140737488355328 < l0 ∨ 140737488355328 < l1 ∨ 140737488355328 < l2)
    (htr : (∃ tl td : List Int, tl.length = l3 ∧ td.length = l4 ∧ Truth w (.agg #[.slice T1 l3 e3, .slice T2 l4 e4]) tl td) ∨ 140737488355328 < l3 ∨ 140737488355328 < l4) (his : (∃ l : List Int, l.length = l5 ∧ Ints w w.heap.size (.slice I0 l5 e5) l) ∨ 140737488355328 < l5) :
    Calls Tryz.prog 10 #[.agg #[.int .i64 rm, .int .i64 pr, .slice A1 n1 c1, .slice A2 n2 c2, .slice A3 n3 c3], .int .u8 a, .int .u8 b, .agg #[.int .i64 m, .slice P0 l0 e0, .slice P1 l1 e1, .slice P2 l2 e2], .agg #[.slice T1 l3 e3, .slice T2 l4 e4], .slice I0 l5 e5] w fun e w' => e = .returned (.bool true) ∧ Below w.heap.size w w' := by
  rcases kiln_arg hk with h | ⟨hf, k, rfl, rfl, rfl, rfl, rfl, hk⟩
  · exact SProves_no rm pr A1 n1 c1 A2 n2 c2 A3 n3 c3 a b m P0 l0 e0 P1 l1 e1 P2 l2 e2 T1 l3 e3 T2 l4 e4 I0 l5 e5 w h
  · by_cases h0 : checkI k = 0
    · by_cases g0 : l5 ≤ 250
      rotate_left
      · exact SProves_long0 k A1 A2 A3 c1 c2 c3 a b m P0 l0 e0 P1 l1 e1 P2 l2 e2 T1 l3 e3 T2 l4 e4 I0 l5 e5 w hk hf h0  (by omega)
      by_cases g1 : l0 ≤ 250
      rotate_left
      · exact SProves_long1 k A1 A2 A3 c1 c2 c3 a b m P0 l0 e0 P1 l1 e1 P2 l2 e2 T1 l3 e3 T2 l4 e4 I0 l5 e5 w hk hf h0 g0 (by omega)
      by_cases g2 : l1 ≤ 60
      rotate_left
      · exact SProves_long2 k A1 A2 A3 c1 c2 c3 a b m P0 l0 e0 P1 l1 e1 P2 l2 e2 T1 l3 e3 T2 l4 e4 I0 l5 e5 w hk hf h0 g0 g1 (by omega)
      by_cases g3 : l2 ≤ 60
      rotate_left
      · exact SProves_long3 k A1 A2 A3 c1 c2 c3 a b m P0 l0 e0 P1 l1 e1 P2 l2 e2 T1 l3 e3 T2 l4 e4 I0 l5 e5 w hk hf h0 g0 g1 g2 (by omega)
      by_cases g4 : l3 ≤ 60
      rotate_left
      · exact SProves_long4 k A1 A2 A3 c1 c2 c3 a b m P0 l0 e0 P1 l1 e1 P2 l2 e2 T1 l3 e3 T2 l4 e4 I0 l5 e5 w hk hf h0 g0 g1 g2 g3 (by omega)
      by_cases g5 : l4 ≤ 60
      rotate_left
      · exact SProves_long5 k A1 A2 A3 c1 c2 c3 a b m P0 l0 e0 P1 l1 e1 P2 l2 e2 T1 l3 e3 T2 l4 e4 I0 l5 e5 w hk hf h0 g0 g1 g2 g3 g4 (by omega)
      obtain ⟨p, tl, td, _, _, _, hp, ht⟩ : ∃ pp tl td : List Int, pp.length = l0 ∧ tl.length = l1 ∧ td.length = l2 ∧ Ints w w.heap.size (.slice P0 l0 e0) pp ∧ Truth w (.agg #[.slice P1 l1 e1, .slice P2 l2 e2]) tl td := by
        rcases hch with h | h
        · exact h
        · omega
      obtain ⟨xl, xd, _, _, hx⟩ : ∃ tl td : List Int, tl.length = l3 ∧ td.length = l4 ∧ Truth w (.agg #[.slice T1 l3 e3, .slice T2 l4 e4]) tl td := by
        rcases htr with h | h
        · exact h
        · omega
      obtain ⟨li, _, hi⟩ : ∃ l : List Int, l.length = l5 ∧ Ints w w.heap.size (.slice I0 l5 e5) l := by
        rcases his with h | h
        · exact h
        · omega
      by_cases hcan : canB (tiesL k) = true
      · exact SProves_can k A1 A2 A3 c1 c2 c3 a b m P0 l0 e0 P1 l1 e1 P2 l2 e2 T1 l3 e3 T2 l4 e4 I0 l5 e5 w hk hf ha hb h0 p tl td xl xd li g0 g1 g2 g3 g4 g5 hp ht hx hi hcan
      · exact SProves_cant k A1 A2 A3 c1 c2 c3 a b m P0 l0 e0 P1 l1 e1 P2 l2 e2 T1 l3 e3 T2 l4 e4 I0 l5 e5 w hk hf ha hb h0 p tl td xl xd li g0 g1 g2 g3 g4 g5 hp ht hx hi hcan
    · exact SProves_bad k A1 A2 A3 c1 c2 c3 a b m P0 l0 e0 P1 l1 e1 P2 l2 e2 T1 l3 e3 T2 l4 e4 I0 l5 e5 w hk hf h0
end Go.Proofs.YtpgepfbdjefmdaaGreat
