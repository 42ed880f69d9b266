/- ShaftTies: the walk (written by tools/genstiesl.py). -/
import Derived.Test.YtpgepfbdjefmdaaGreatJ27
import Derived.Test.YtpgepfbdjefmdaaGreatZSRefK
import Derived.Test.YtpgepfbdjefmdaaGreatZSRefL
import Derived.Test.YtpgepfbdjefmdaaGreatZWR
import Derived.Test.YtpgepfbdjefmdaaGreatZSHgtE
import Derived.Test.YtpgepfbdjefmdaaGreatZSFitsE
namespace Go.Proofs.YtpgepfbdjefmdaaGreat
open Go Go.RowKit Go.Shelf
attribute [local go_sem] Oper.semAt_some Rel RelAt RelUpon

set_option maxRecDepth 100000 in
set_option maxHeartbeats 8000000 in
theorem STies_no (rm pr : Int) (A1 : Option Addr) (n1 c1 : Nat) (A2 : Option Addr) (n2 c2 : Nat) (A3 : Option Addr) (n3 c3 : Nat) (T1 : Option Addr) (l3 e3 : Nat) (T2 : Option Addr) (l4 e4 : Nat) (w : World) (h : fewB3 n1 n2 n3 = false) : Calls Tryz.prog 3 #[.agg #[.int .i64 rm, .int .i64 pr, .slice A1 n1 c1, .slice A2 n2 c2, .slice A3 n3 c3], .agg #[.slice T1 l3 e3, .slice T2 l4 e4]] w fun e w' => e = .returned (.bool true) ∧ Below w.heap.size w w' := by
  go_enter Tryz.func3, Tryz.ntmps3
  obtain ⟨bk, bt, -, HB⟩ := two_new' w (.cells #[.int .i64 rm, .int .i64 pr, .slice A1 n1 c1, .slice A2 n2 c2, .slice A3 n3 c3] 26) (.cells #[.slice T1 l3 e3, .slice T2 l4 e4] 29)
  have cbk0 := Joins.cell_of_block bk 0
  have cbk1 := Joins.cell_of_block bk 1
  have cbk2 := Joins.cell_of_block bk 2
  have cbk3 := Joins.cell_of_block bk 3
  have cbk4 := Joins.cell_of_block bk 4
  have zbk := size_of_block bk
  go_wp2_with fail
  generalize ((w.alloc (.cells #[.int .i64 rm, .int .i64 pr, .slice A1 n1 c1, .slice A2 n2 c2, .slice A3 n3 c3] 26)).alloc (.cells #[.slice T1 l3 e3, .slice T2 l4 e4] 29)) = w1 at bk bt HB cbk0 cbk1 cbk2 cbk3 cbk4 zbk ⊢
  have hB := HB
  clear HB
  refine (lfew_c rm pr A1 A2 A3 n1 c1 n2 c2 n3 c3 _).mono ?_
  rintro e w2 ⟨rfl, hF⟩
  clear cbk0 cbk1 cbk2 cbk3 cbk4 zbk
  replace bk := (hF.block _ (size_of_block bk)).trans bk
  replace bt := (hF.block _ (size_of_block bt)).trans bt
  replace hB := below_then hB hF
  clear hF
  rw [h]
  go_wp2_with fail
  refine (sanity_c _).mono ?_
  rintro e w3 ⟨rfl, hF⟩
  replace bk := (hF.block _ (size_of_block bk)).trans bk
  replace bt := (hF.block _ (size_of_block bt)).trans bt
  replace hB := below_then hB hF
  clear hF
  go_wp2_with fail
  go_ret
  exact ⟨rfl, hB⟩
set_option maxRecDepth 100000 in
set_option maxHeartbeats 8000000 in
theorem STies_long0 (k : Kl) (A1 A2 A3 : Option Addr) (c1 c2 c3 : Nat) (T1 : Option Addr) (l3 e3 : Nat) (T2 : Option Addr) (l4 e4 : Nat) (w : World) (hk : Kiln w (.agg #[.int .i64 k.room, .int .i64 k.per, .slice A1 k.ls.length c1, .slice A2 k.ds.length c2, .slice A3 k.ws.length c3]) k) (hf : fewB3 k.ls.length k.ds.length k.ws.length = true) (g0 : 60 < l3) : Calls Tryz.prog 3 #[.agg #[.int .i64 k.room, .int .i64 k.per, .slice A1 k.ls.length c1, .slice A2 k.ds.length c2, .slice A3 k.ws.length c3], .agg #[.slice T1 l3 e3, .slice T2 l4 e4]] w fun e w' => e = .returned (.bool true) ∧ Below w.heap.size w w' := by
  have d0 : decide ((l3 : Int) > 60) = true := decide_eq_true (by omega)
  have HK := Lib.hid hk
  clear hk
  go_enter Tryz.func3, Tryz.ntmps3
  obtain ⟨bk, bt, -, HB⟩ := two_new' w (.cells #[.int .i64 k.room, .int .i64 k.per, .slice A1 k.ls.length c1, .slice A2 k.ds.length c2, .slice A3 k.ws.length c3] 26) (.cells #[.slice T1 l3 e3, .slice T2 l4 e4] 29)
  have cbk0 := Joins.cell_of_block bk 0
  have cbk1 := Joins.cell_of_block bk 1
  have cbk2 := Joins.cell_of_block bk 2
  have cbk3 := Joins.cell_of_block bk 3
  have cbk4 := Joins.cell_of_block bk 4
  have zbk := size_of_block bk
  go_wp2_with fail
  generalize ((w.alloc (.cells #[.int .i64 k.room, .int .i64 k.per, .slice A1 k.ls.length c1, .slice A2 k.ds.length c2, .slice A3 k.ws.length c3] 26)).alloc (.cells #[.slice T1 l3 e3, .slice T2 l4 e4] 29)) = w1 at bk bt HB cbk0 cbk1 cbk2 cbk3 cbk4 zbk ⊢
  have hB := HB
  clear HB
  refine (lfew_c k.room k.per A1 A2 A3 k.ls.length c1 k.ds.length c2 k.ws.length c3 _).mono ?_
  rintro e w2 ⟨rfl, hF⟩
  clear cbk0 cbk1 cbk2 cbk3 cbk4 zbk
  replace bk := (hF.block _ (size_of_block bk)).trans bk
  replace bt := (hF.block _ (size_of_block bt)).trans bt
  replace hB := below_then hB hF
  clear hF
  rw [hf]
  have cbt0 := Joins.cell_of_block bt 0
  have cbt1 := Joins.cell_of_block bt 1
  have zbt := size_of_block bt
  go_wp2_with fail
  all_goals (try (exfalso; omega))
  refine (sanity_c _).mono ?_
  rintro e w3 ⟨rfl, hF⟩
  clear cbt0 cbt1 zbt
  replace bk := (hF.block _ (size_of_block bk)).trans bk
  replace bt := (hF.block _ (size_of_block bt)).trans bt
  replace hB := below_then hB hF
  clear hF
  go_wp2_with fail
  go_ret
  exact ⟨rfl, hB⟩
set_option maxRecDepth 100000 in
set_option maxHeartbeats 8000000 in
theorem STies_long1 (k : Kl) (A1 A2 A3 : Option Addr) (c1 c2 c3 : Nat) (T1 : Option Addr) (l3 e3 : Nat) (T2 : Option Addr) (l4 e4 : Nat) (w : World) (hk : Kiln w (.agg #[.int .i64 k.room, .int .i64 k.per, .slice A1 k.ls.length c1, .slice A2 k.ds.length c2, .slice A3 k.ws.length c3]) k) (hf : fewB3 k.ls.length k.ds.length k.ws.length = true) (g0 : l3 ≤ 60) (g1 : 60 < l4) : Calls Tryz.prog 3 #[.agg #[.int .i64 k.room, .int .i64 k.per, .slice A1 k.ls.length c1, .slice A2 k.ds.length c2, .slice A3 k.ws.length c3], .agg #[.slice T1 l3 e3, .slice T2 l4 e4]] w fun e w' => e = .returned (.bool true) ∧ Below w.heap.size w w' := by
  have d0 : decide ((l3 : Int) > 60) = false := decide_eq_false (by omega)
  have d1 : decide ((l4 : Int) > 60) = true := decide_eq_true (by omega)
  have HK := Lib.hid hk
  clear hk
  go_enter Tryz.func3, Tryz.ntmps3
  obtain ⟨bk, bt, -, HB⟩ := two_new' w (.cells #[.int .i64 k.room, .int .i64 k.per, .slice A1 k.ls.length c1, .slice A2 k.ds.length c2, .slice A3 k.ws.length c3] 26) (.cells #[.slice T1 l3 e3, .slice T2 l4 e4] 29)
  have cbk0 := Joins.cell_of_block bk 0
  have cbk1 := Joins.cell_of_block bk 1
  have cbk2 := Joins.cell_of_block bk 2
  have cbk3 := Joins.cell_of_block bk 3
  have cbk4 := Joins.cell_of_block bk 4
  have zbk := size_of_block bk
  go_wp2_with fail
  generalize ((w.alloc (.cells #[.int .i64 k.room, .int .i64 k.per, .slice A1 k.ls.length c1, .slice A2 k.ds.length c2, .slice A3 k.ws.length c3] 26)).alloc (.cells #[.slice T1 l3 e3, .slice T2 l4 e4] 29)) = w1 at bk bt HB cbk0 cbk1 cbk2 cbk3 cbk4 zbk ⊢
  have hB := HB
  clear HB
  refine (lfew_c k.room k.per A1 A2 A3 k.ls.length c1 k.ds.length c2 k.ws.length c3 _).mono ?_
  rintro e w2 ⟨rfl, hF⟩
  clear cbk0 cbk1 cbk2 cbk3 cbk4 zbk
  replace bk := (hF.block _ (size_of_block bk)).trans bk
  replace bt := (hF.block _ (size_of_block bt)).trans bt
  replace hB := below_then hB hF
  clear hF
  rw [hf]
  have cbt0 := Joins.cell_of_block bt 0
  have cbt1 := Joins.cell_of_block bt 1
  have zbt := size_of_block bt
  go_wp2_with fail
  all_goals (try (exfalso; omega))
  refine (sanity_c _).mono ?_
  rintro e w3 ⟨rfl, hF⟩
  clear cbt0 cbt1 zbt
  replace bk := (hF.block _ (size_of_block bk)).trans bk
  replace bt := (hF.block _ (size_of_block bt)).trans bt
  replace hB := below_then hB hF
  clear hF
  go_wp2_with fail
  go_ret
  exact ⟨rfl, hB⟩
set_option maxRecDepth 100000 in
set_option maxHeartbeats 8000000 in
theorem STies_few (k : Kl) (A1 A2 A3 : Option Addr) (c1 c2 c3 : Nat) (T1 : Option Addr) (l3 e3 : Nat) (T2 : Option Addr) (l4 e4 : Nat) (w : World) (hk : Kiln w (.agg #[.int .i64 k.room, .int .i64 k.per, .slice A1 k.ls.length c1, .slice A2 k.ds.length c2, .slice A3 k.ws.length c3]) k) (hf : fewB3 k.ls.length k.ds.length k.ws.length = true) (g0 : l3 ≤ 60) (g1 : l4 ≤ 60) (xl xd : List Int) (hx : Truth w (.agg #[.slice T1 l3 e3, .slice T2 l4 e4]) xl xd) : Calls Tryz.prog 3 #[.agg #[.int .i64 k.room, .int .i64 k.per, .slice A1 k.ls.length c1, .slice A2 k.ds.length c2, .slice A3 k.ws.length c3], .agg #[.slice T1 l3 e3, .slice T2 l4 e4]] w fun e w' => e = .returned (.bool true) ∧ Below w.heap.size w w' := by
  have d0 : decide ((l3 : Int) > 60) = false := decide_eq_false (by omega)
  have d1 : decide ((l4 : Int) > 60) = false := decide_eq_false (by omega)
  have HX := Lib.hid hx
  clear hx
  have yF := fun W h ht => Fits_c k (.agg #[.int .i64 k.room, .int .i64 k.per, .slice A1 k.ls.length c1, .slice A2 k.ds.length c2, .slice A3 k.ws.length c3]) (.agg #[.slice T1 l3 e3, .slice T2 l4 e4]) xl xd W h ht
  have yG := fun W h ht => rFits_c k (.agg #[.int .i64 k.room, .int .i64 k.per, .slice A1 k.ls.length c1, .slice A2 k.ds.length c2, .slice A3 k.ws.length c3]) (.agg #[.slice T1 l3 e3, .slice T2 l4 e4]) xl xd W h ht
  obtain ⟨FN, h9⟩ : ∃ x, x = fitsN k xl xd := ⟨_, rfl⟩
  rw [← h9] at yF yG
  clear h9
  obtain ⟨FB, h9⟩ : ∃ x, x = fitsB k xl xd := ⟨_, rfl⟩
  rw [← h9] at yF yG
  clear h9
  obtain ⟨FE, h9⟩ : ∃ x, x = fitsE k xl xd := ⟨_, rfl⟩
  rw [← h9] at yF yG
  clear h9
  have yT := fun W h => Ties_d k (.agg #[.int .i64 k.room, .int .i64 k.per, .slice A1 k.ls.length c1, .slice A2 k.ds.length c2, .slice A3 k.ws.length c3]) W h
  have yR := fun W h => rTies_c k (.agg #[.int .i64 k.room, .int .i64 k.per, .slice A1 k.ls.length c1, .slice A2 k.ds.length c2, .slice A3 k.ws.length c3]) W h
  have yC := fun W h => check_c k (.agg #[.int .i64 k.room, .int .i64 k.per, .slice A1 k.ls.length c1, .slice A2 k.ds.length c2, .slice A3 k.ws.length c3]) W h
  have yD := fun W h => rcheck_c k (.agg #[.int .i64 k.room, .int .i64 k.per, .slice A1 k.ls.length c1, .slice A2 k.ds.length c2, .slice A3 k.ws.length c3]) W h
  obtain ⟨CE, h9⟩ : ∃ x, x = checkI k := ⟨_, rfl⟩
  rw [← h9] at yT yR yC yD
  clear h9
  have hle : (tiesE k).length ≤ 160 := by
    unfold tiesE
    split
    · rename_i h; exact tiesL_len (right_of_check h).small
    · simp
  obtain ⟨TL, h9⟩ : ∃ x, x = tiesE k := ⟨_, rfl⟩
  rw [← h9] at yT yR hle
  clear h9
  have HLE := Lib.hid hle
  clear hle
  have HF := Lib.hid yF
  clear yF
  have HG := Lib.hid yG
  clear yG
  have HT := Lib.hid yT
  clear yT
  have HR := Lib.hid yR
  clear yR
  have HC := Lib.hid yC
  clear yC
  have HD := Lib.hid yD
  clear yD
  have HG01 := Lib.hid (⟨g0, g1⟩ : l3 ≤ 60 ∧ l4 ≤ 60)
  have HK := Lib.hid hk
  clear hk
  go_enter Tryz.func3, Tryz.ntmps3
  obtain ⟨bk, bt, -, HB⟩ := two_new' w (.cells #[.int .i64 k.room, .int .i64 k.per, .slice A1 k.ls.length c1, .slice A2 k.ds.length c2, .slice A3 k.ws.length c3] 26) (.cells #[.slice T1 l3 e3, .slice T2 l4 e4] 29)
  have cbk0 := Joins.cell_of_block bk 0
  have cbk1 := Joins.cell_of_block bk 1
  have cbk2 := Joins.cell_of_block bk 2
  have cbk3 := Joins.cell_of_block bk 3
  have cbk4 := Joins.cell_of_block bk 4
  have zbk := size_of_block bk
  go_wp2_with fail
  generalize ((w.alloc (.cells #[.int .i64 k.room, .int .i64 k.per, .slice A1 k.ls.length c1, .slice A2 k.ds.length c2, .slice A3 k.ws.length c3] 26)).alloc (.cells #[.slice T1 l3 e3, .slice T2 l4 e4] 29)) = w1 at bk bt HB cbk0 cbk1 cbk2 cbk3 cbk4 zbk ⊢
  have hB := HB
  clear HB
  refine (lfew_c k.room k.per A1 A2 A3 k.ls.length c1 k.ds.length c2 k.ws.length c3 _).mono ?_
  rintro e w2 ⟨rfl, hF⟩
  clear cbk0 cbk1 cbk2 cbk3 cbk4 zbk
  replace bk := (hF.block _ (size_of_block bk)).trans bk
  replace bt := (hF.block _ (size_of_block bt)).trans bt
  replace hB := below_then hB hF
  clear hF
  rw [hf]
  have cbk0 := Joins.cell_of_block bk 0
  have cbk1 := Joins.cell_of_block bk 1
  have cbk2 := Joins.cell_of_block bk 2
  have cbk3 := Joins.cell_of_block bk 3
  have cbk4 := Joins.cell_of_block bk 4
  have zbk := size_of_block bk
  have cbt0 := Joins.cell_of_block bt 0
  have cbt1 := Joins.cell_of_block bt 1
  have zbt := size_of_block bt
  go_wp2_with fail
  all_goals (try (exfalso; omega))
  clear g0 g1 HG01
  refine (HT.out w2 (HK.out.later hB)).mono ?_
  rintro e w3 ⟨uT, rfl, hT, hF⟩
  clear cbk0 cbk1 cbk2 cbk3 cbk4 zbk cbt0 cbt1 zbt
  replace bk := (hF.block _ (size_of_block bk)).trans bk
  replace bt := (hF.block _ (size_of_block bt)).trans bt
  replace hB := below_then hB hF
  clear hF
  obtain ⟨AT, cT, rfl⟩ := own_form hT
  have cbk0 := Joins.cell_of_block bk 0
  have cbk1 := Joins.cell_of_block bk 1
  have cbk2 := Joins.cell_of_block bk 2
  have cbk3 := Joins.cell_of_block bk 3
  have cbk4 := Joins.cell_of_block bk 4
  have zbk := size_of_block bk
  go_wp2_with fail
  refine (HR.out w3 (HK.out.later hB)).mono ?_
  rintro e w4 ⟨⟨AR, cR, rfl, hU⟩, hF⟩
  clear cbk0 cbk1 cbk2 cbk3 cbk4 zbk
  replace bk := (hF.block _ (size_of_block bk)).trans bk
  replace bt := (hF.block _ (size_of_block bt)).trans bt
  replace hT := own_later hT hF
  replace hB := below_then hB hF
  clear hF
  have b7 := heap_alloc_new w4 (.cells #[.slice AR TL.length cR, .int .i64 CE] 37)
  have HB := below_alloc w4 (.cells #[.slice AR TL.length cR, .int .i64 CE] 37)
  have cbk0 := Joins.cell_of_block ((HB.block _ (size_of_block bk)).trans bk) 0
  have cbk1 := Joins.cell_of_block ((HB.block _ (size_of_block bk)).trans bk) 1
  have cbk2 := Joins.cell_of_block ((HB.block _ (size_of_block bk)).trans bk) 2
  have cbk3 := Joins.cell_of_block ((HB.block _ (size_of_block bk)).trans bk) 3
  have cbk4 := Joins.cell_of_block ((HB.block _ (size_of_block bk)).trans bk) 4
  have zbk := size_of_block bk
  have cbt0 := Joins.cell_of_block ((HB.block _ (size_of_block bt)).trans bt) 0
  have cbt1 := Joins.cell_of_block ((HB.block _ (size_of_block bt)).trans bt) 1
  have zbt := size_of_block bt
  go_wp2_with fail
  generalize (w4.alloc (.cells #[.slice AR TL.length cR, .int .i64 CE] 37)) = w5 at b7 HB cbk0 cbk1 cbk2 cbk3 cbk4 cbt0 cbt1 ⊢
  replace bk := (HB.block _ (size_of_block bk)).trans bk
  replace bt := (HB.block _ (size_of_block bt)).trans bt
  replace hU := hU.later HB
  replace hT := own_later hT HB
  replace hB := below_then hB HB
  clear HB
  refine (HF.out w5 (HK.out.later hB) (HX.out.later hB)).mono ?_
  rintro e w6 ⟨rfl, hF⟩
  clear cbk0 cbk1 cbk2 cbk3 cbk4 zbk cbt0 cbt1 zbt
  replace bk := (hF.block _ (size_of_block bk)).trans bk
  replace bt := (hF.block _ (size_of_block bt)).trans bt
  replace b7 := (hF.block _ (size_of_block b7)).trans b7
  replace hU := hU.later hF
  replace hT := own_later hT hF
  replace hB := below_then hB hF
  clear hF
  have cbk0 := Joins.cell_of_block bk 0
  have cbk1 := Joins.cell_of_block bk 1
  have cbk2 := Joins.cell_of_block bk 2
  have cbk3 := Joins.cell_of_block bk 3
  have cbk4 := Joins.cell_of_block bk 4
  have zbk := size_of_block bk
  have cbt0 := Joins.cell_of_block bt 0
  have cbt1 := Joins.cell_of_block bt 1
  have zbt := size_of_block bt
  go_wp2_with fail
  refine (HG.out w6 (HK.out.later hB) (HX.out.later hB)).mono ?_
  rintro e w7 ⟨rfl, hF⟩
  clear cbk0 cbk1 cbk2 cbk3 cbk4 zbk cbt0 cbt1 zbt
  replace bk := (hF.block _ (size_of_block bk)).trans bk
  replace bt := (hF.block _ (size_of_block bt)).trans bt
  replace b7 := (hF.block _ (size_of_block b7)).trans b7
  replace hU := hU.later hF
  replace hT := own_later hT hF
  replace hB := below_then hB hF
  clear hF
  have b11 := heap_alloc_new w7 (.cells #[.int .i64 FN, .bool FB, .int .i64 FE] 42)
  have HB := below_alloc w7 (.cells #[.int .i64 FN, .bool FB, .int .i64 FE] 42)
  go_wp2_with fail
  generalize (w7.alloc (.cells #[.int .i64 FN, .bool FB, .int .i64 FE] 42)) = w8 at b11 HB  ⊢
  replace bk := (HB.block _ (size_of_block bk)).trans bk
  replace bt := (HB.block _ (size_of_block bt)).trans bt
  replace b7 := (HB.block _ (size_of_block b7)).trans b7
  replace hU := hU.later HB
  replace hT := own_later hT HB
  replace hB := below_then hB HB
  clear HB
  go_wp2_with fail
  refine wp_region_planW [.s 0, .f [1, 2, 4], .s 3, .s 5, .f [6, 7, 8, 9, 10, 11], .s 12, .f [13, 14, 15, 16, 17, 18, 19, 20, 21, 22, 23, 24, 25, 26, 27, 28, 29, 30, 31, 32, 33, 34, 35, 36, 37], .s 38] [] (by kernel_rfl) (by kernel_rfl) (by intro c a d v w h; cases d <;> exact h) ?_
  intro p9_0 hu
  replace bk := (hu.block _ (size_of_block bk)).trans bk
  replace bt := (hu.block _ (size_of_block bt)).trans bt
  replace b7 := (hu.block _ (size_of_block b7)).trans b7
  replace b11 := (hu.block _ (size_of_block b11)).trans b11
  replace hU := hU.later hu
  replace hT := own_later hT hu
  replace hB := below_then hB hu
  clear hu
  refine wpPlanW_call rfl (by kernel_rfl) fun K hK => ?_
  go_simp
  refine (sanity_c p9_0).mono ?_
  rintro e X ⟨rfl, hxx⟩
  refine hK _ _ hxx fun p9_1 hu => ?_
  clear hK K
  have hv := below_then hxx hu
  replace bk := (hv.block _ (size_of_block bk)).trans bk
  replace bt := (hv.block _ (size_of_block bt)).trans bt
  replace b7 := (hv.block _ (size_of_block b7)).trans b7
  replace b11 := (hv.block _ (size_of_block b11)).trans b11
  replace hU := hU.later hv
  replace hT := own_later hT hv
  replace hB := below_then hB hv
  clear hxx hu hv
  refine wpPlanW_r ?_
  simp only [pick, List.filterMap_cons, List.filterMap_nil, List.getElem?_toArray, List.getElem?_cons_succ, List.getElem?_cons_zero]
  have cbk0 := Joins.cell_of_block bk 0
  have cbk1 := Joins.cell_of_block bk 1
  have cbk2 := Joins.cell_of_block bk 2
  have cbk3 := Joins.cell_of_block bk 3
  have cbk4 := Joins.cell_of_block bk 4
  have zbk := size_of_block bk
  have hcg : ∀ (g : Gr p9_1) b o, b < p9_1.heap.size → g.val.cell? ⟨b, o, none⟩ = p9_1.cell? ⟨b, o, none⟩ := fun g b o h => (bcell g.b).1 b o h
  refine WR.step (by kernel_rfl) (fun K hK => ?_); go_simp; refine hK _ ?_; clear hK K
  refine WR.step (by kernel_rfl) (fun K hK => ?_); go_simp; refine hK _ ?_; clear hK K
  refine WR.step (by kernel_rfl) (fun K hK => ?_); go_simp; refine hK _ ?_; clear hK K
  go_simp
  refine WR.nil fun p9_2 hb => ?_
  clear hcg cbk0 cbk1 cbk2 cbk3 cbk4 zbk
  replace bk := (hb.block _ (size_of_block bk)).trans bk
  replace bt := (hb.block _ (size_of_block bt)).trans bt
  replace b7 := (hb.block _ (size_of_block b7)).trans b7
  replace b11 := (hb.block _ (size_of_block b11)).trans b11
  replace hU := hU.later hb
  replace hT := own_later hT hb
  replace hB := below_then hB hb
  clear hb
  refine wpPlanW_call rfl (by kernel_rfl) fun K hK => ?_
  go_simp
  refine (HC.out p9_2 (HK.out.later hB)).mono ?_
  rintro e X ⟨rfl, hxx⟩
  refine hK _ _ hxx fun p9_3 hu => ?_
  clear hK K
  have hv := below_then hxx hu
  replace bk := (hv.block _ (size_of_block bk)).trans bk
  replace bt := (hv.block _ (size_of_block bt)).trans bt
  replace b7 := (hv.block _ (size_of_block b7)).trans b7
  replace b11 := (hv.block _ (size_of_block b11)).trans b11
  replace hU := hU.later hv
  replace hT := own_later hT hv
  replace hB := below_then hB hv
  clear hxx hu hv
  refine wpPlanW_call rfl (by kernel_rfl) fun K hK => ?_
  go_simp
  refine (HD.out p9_3 (HK.out.later hB)).mono ?_
  rintro e X ⟨rfl, hxx⟩
  refine hK _ _ hxx fun p9_4 hu => ?_
  clear hK K
  have hv := below_then hxx hu
  replace bk := (hv.block _ (size_of_block bk)).trans bk
  replace bt := (hv.block _ (size_of_block bt)).trans bt
  replace b7 := (hv.block _ (size_of_block b7)).trans b7
  replace b11 := (hv.block _ (size_of_block b11)).trans b11
  replace hU := hU.later hv
  replace hT := own_later hT hv
  replace hB := below_then hB hv
  clear hxx hu hv
  refine wpPlanW_r ?_
  simp only [pick, List.filterMap_cons, List.filterMap_nil, List.getElem?_toArray, List.getElem?_cons_succ, List.getElem?_cons_zero]
  have cb70 := Joins.cell_of_block b7 0
  have cb71 := Joins.cell_of_block b7 1
  have zb7 := size_of_block b7
  have hcg : ∀ (g : Gr p9_4) b o, b < p9_4.heap.size → g.val.cell? ⟨b, o, none⟩ = p9_4.cell? ⟨b, o, none⟩ := fun g b o h => (bcell g.b).1 b o h
  refine WR.val (.bool true) (by kernel_rfl) (by intro g; first | (simp [execOp, go_sem]; done) | kernel_rfl) ?_
  refine WR.val (.bool true) (by kernel_rfl) (by intro g; first | (simp [execOp, go_sem]; done) | kernel_rfl) ?_
  refine WR.val (.bool true) (by kernel_rfl) (by intro g; first | (simp [execOp, go_sem]; done) | kernel_rfl) ?_
  refine WR.step (by kernel_rfl) (fun K hK => ?_); go_simp; refine hK _ ?_; clear hK K
  refine WR.step (by kernel_rfl) (fun K hK => ?_); go_simp; refine hK _ ?_; clear hK K
  refine WR.step (by kernel_rfl) (fun K hK => ?_); go_simp; refine hK _ ?_; clear hK K
  go_simp
  refine WR.nil fun p9_5 hb => ?_
  clear hcg cb70 cb71 zb7
  replace bk := (hb.block _ (size_of_block bk)).trans bk
  replace bt := (hb.block _ (size_of_block bt)).trans bt
  replace b7 := (hb.block _ (size_of_block b7)).trans b7
  replace b11 := (hb.block _ (size_of_block b11)).trans b11
  replace hU := hU.later hb
  replace hT := own_later hT hb
  replace hB := below_then hB hb
  clear hb
  refine wpPlanW_call rfl (by kernel_rfl) fun K hK => ?_
  go_simp
  refine (rSame_c TL _ _ p9_5 (OwnTies.at_ hT (by have := HLE.out; omega)) hU).mono ?_
  rintro e X ⟨rfl, hxx⟩
  refine hK _ _ hxx fun p9_6 hu => ?_
  clear hK K
  have hv := below_then hxx hu
  replace bk := (hv.block _ (size_of_block bk)).trans bk
  replace bt := (hv.block _ (size_of_block bt)).trans bt
  replace b7 := (hv.block _ (size_of_block b7)).trans b7
  replace b11 := (hv.block _ (size_of_block b11)).trans b11
  replace hU := hU.later hv
  replace hT := own_later hT hv
  replace hB := below_then hB hv
  clear hxx hu hv
  refine wpPlanW_r ?_
  simp only [pick, List.filterMap_cons, List.filterMap_nil, List.getElem?_toArray, List.getElem?_cons_succ, List.getElem?_cons_zero]
  have cb70 := Joins.cell_of_block b7 0
  have cb71 := Joins.cell_of_block b7 1
  have zb7 := size_of_block b7
  have cb110 := Joins.cell_of_block b11 0
  have cb111 := Joins.cell_of_block b11 1
  have cb112 := Joins.cell_of_block b11 2
  have zb11 := size_of_block b11
  have hcg : ∀ (g : Gr p9_6) b o, b < p9_6.heap.size → g.val.cell? ⟨b, o, none⟩ = p9_6.cell? ⟨b, o, none⟩ := fun g b o h => (bcell g.b).1 b o h
  refine WR.val (.bool true) (by kernel_rfl) (by intro g; first | (simp [execOp, go_sem]; done) | kernel_rfl) ?_
  refine WR.val (.bool true) (by kernel_rfl) (by intro g; first | (simp [execOp, go_sem]; done) | kernel_rfl) ?_
  refine WR.step (by kernel_rfl) (fun K hK => ?_); go_simp; refine hK _ ?_; clear hK K
  refine WR.step (by kernel_rfl) (fun K hK => ?_); go_simp; refine hK _ ?_; clear hK K
  refine WR.step (by kernel_rfl) (fun K hK => ?_); go_simp; refine hK _ ?_; clear hK K
  refine WR.val (.bool true) (by kernel_rfl) (by intro g; first | (simp [execOp, go_sem]; done) | kernel_rfl) ?_
  refine WR.val (.bool true) (by kernel_rfl) (by intro g; first | (simp [execOp, go_sem]; done) | kernel_rfl) ?_
  refine WR.val (.bool true) (by kernel_rfl) (by intro g; first | (simp [execOp, go_sem]; done) | kernel_rfl) ?_
  refine WR.step (by kernel_rfl) (fun K hK => ?_); go_simp; refine hK _ ?_; clear hK K
  refine WR.step (by kernel_rfl) (fun K hK => ?_); go_simp; refine hK _ ?_; clear hK K
  refine WR.step (by kernel_rfl) (fun K hK => ?_); go_simp; refine hK _ ?_; clear hK K
  refine WR.val (.bool true) (by kernel_rfl) (by intro g; first | (simp [execOp, go_sem]; done) | kernel_rfl) ?_
  refine WR.val (.bool true) (by kernel_rfl) (by intro g; first | (simp [execOp, go_sem]; done) | kernel_rfl) ?_
  refine WR.val (.bool true) (by kernel_rfl) (by intro g; first | (simp [execOp, go_sem]; done) | kernel_rfl) ?_
  refine WR.step (by kernel_rfl) (fun K hK => ?_); go_simp; refine hK _ ?_; clear hK K
  refine WR.step (by kernel_rfl) (fun K hK => ?_); go_simp; refine hK _ ?_; clear hK K
  refine WR.step (by kernel_rfl) (fun K hK => ?_); go_simp; refine hK _ ?_; clear hK K
  refine WR.val (.bool true) (by kernel_rfl) (by intro g; first | (simp [execOp, go_sem]; done) | kernel_rfl) ?_
  refine WR.val (.bool true) (by kernel_rfl) (by intro g; first | (simp [execOp, go_sem]; done) | kernel_rfl) ?_
  refine WR.val (.bool true) (by kernel_rfl) (by intro g; first | (simp [execOp, go_sem]; done) | kernel_rfl) ?_
  refine WR.step (by kernel_rfl) (fun K hK => ?_); go_simp; refine hK _ ?_; clear hK K
  refine WR.step (by kernel_rfl) (fun K hK => ?_); go_simp; refine hK _ ?_; clear hK K
  refine WR.step (by kernel_rfl) (fun K hK => ?_); go_simp; refine hK _ ?_; clear hK K
  refine WR.val (.bool true) (by kernel_rfl) (by intro g; first | (simp [execOp, go_sem]; done) | kernel_rfl) ?_
  refine WR.val (.bool true) (by kernel_rfl) (by intro g; first | (simp [execOp, go_sem]; done) | kernel_rfl) ?_
  go_simp
  refine WR.nil fun p9_7 hb => ?_
  clear hcg cb70 cb71 zb7 cb110 cb111 cb112 zb11
  replace bk := (hb.block _ (size_of_block bk)).trans bk
  replace bt := (hb.block _ (size_of_block bt)).trans bt
  replace b7 := (hb.block _ (size_of_block b7)).trans b7
  replace b11 := (hb.block _ (size_of_block b11)).trans b11
  replace hU := hU.later hb
  replace hT := own_later hT hb
  replace hB := below_then hB hb
  clear hb
  refine wpPlanW_call rfl (by kernel_rfl) fun K hK => ?_
  go_simp
  refine hK _ _ (Below.refl _ _) fun p9_8 hu => ?_
  clear hK K
  replace bk := (hu.block _ (size_of_block bk)).trans bk
  replace bt := (hu.block _ (size_of_block bt)).trans bt
  replace b7 := (hu.block _ (size_of_block b7)).trans b7
  replace b11 := (hu.block _ (size_of_block b11)).trans b11
  replace hU := hU.later hu
  replace hT := own_later hT hu
  replace hB := below_then hB hu
  clear hu
  refine wpPlanW_nil ?_
  show wpList _ _ _ _ _ _
  skip
  go_wp2_with fail
  go_ret
  exact ⟨rfl, hB⟩
theorem ShaftTies_w (rm pr : Int) (A1 : Option Addr) (n1 c1 : Nat) (A2 : Option Addr) (n2 c2 : Nat) (A3 : Option Addr) (n3 c3 : Nat) (T1 : Option Addr) (l3 e3 : Nat) (T2 : Option Addr) (l4 e4 : Nat) (w : World)
    (hk : (∃ k : Kl, k.room = rm ∧ k.per = pr ∧ k.ls.length = n1 ∧ k.ds.length = n2 ∧ k.ws.length = n3 ∧ Kiln w (.agg #[.int .i64 rm, .int .i64 pr, .slice A1 n1 c1, .slice A2 n2 c2, .slice A3 n3 c3]) k) ∨ 140737488355328 < n1 ∨ 140737488355328 < n2 ∨ 140737488355328 < n3) (hx : (∃ tl td : List Int, tl.length = l3 ∧ td.length = l4 ∧ Truth w (.agg #[.slice T1 l3 e3, .slice T2 l4 e4]) tl td) ∨ 140737488355328 < l3 ∨ 140737488355328 < l4) :
    Calls Tryz.prog 3 #[.agg #[.int .i64 rm, .int .i64 pr, .slice A1 n1 c1, .slice A2 n2 c2, .slice A3 n3 c3], .agg #[.slice T1 l3 e3, .slice T2 l4 e4]] w fun e w' => e = .returned (.bool true) ∧ Below w.heap.size w w' := by
  rcases kiln_arg hk with h | ⟨hf, k, rfl, rfl, rfl, rfl, rfl, hk⟩
  · exact STies_no rm pr A1 n1 c1 A2 n2 c2 A3 n3 c3 T1 l3 e3 T2 l4 e4 w h
  · by_cases g0 : 60 < l3
    · exact STies_long0 k A1 A2 A3 c1 c2 c3 T1 l3 e3 T2 l4 e4 w hk hf g0
    · by_cases g1 : 60 < l4
      · exact STies_long1 k A1 A2 A3 c1 c2 c3 T1 l3 e3 T2 l4 e4 w hk hf (by omega) g1
      · rcases hx with ⟨xl, xd, _, _, hx⟩ | hx | hx
        · exact STies_few k A1 A2 A3 c1 c2 c3 T1 l3 e3 T2 l4 e4 w hk hf (by omega) (by omega) xl xd hx
        · omega
        · omega
end Go.Proofs.YtpgepfbdjefmdaaGreat
