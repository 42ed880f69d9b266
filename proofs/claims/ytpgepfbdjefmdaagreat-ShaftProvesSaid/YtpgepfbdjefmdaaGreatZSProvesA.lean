/- ShaftProves: the walk (written by tools/gensproves.py). -/
import Derived.Test.YtpgepfbdjefmdaaGreatJ27
namespace Go.Proofs.YtpgepfbdjefmdaaGreat
open Go Go.RowKit Go.Shelf
attribute [local go_sem] Oper.semAt_some Rel RelAt RelUpon

theorem mark_emod {k : Kl} (a : Nat) : (a : Int) % marksN k = ((a % mN k : Nat) : Int) := by rw [mN_eq k, Int.natCast_emod]
set_option maxRecDepth 100000 in
set_option maxHeartbeats 8000000 in
theorem SProves_no (rm pr : Int) (A1 : Option Addr) (n1 c1 : Nat) (A2 : Option Addr) (n2 c2 : Nat) (A3 : Option Addr) (n3 c3 : Nat) (a b : Nat) (m : Int) (P0 : Option Addr) (l0 e0 : Nat) (P1 : Option Addr) (l1 e1 : Nat) (P2 : Option Addr) (l2 e2 : Nat) (T1 : Option Addr) (l3 e3 : Nat) (T2 : Option Addr) (l4 e4 : Nat) (I0 : Option Addr) (l5 e5 : Nat) (w : World) (h : fewB3 n1 n2 n3 = false) : Calls Tryz.prog 10 #[.agg #[.int .i64 rm, .int .i64 pr, .slice A1 n1 c1, .slice A2 n2 c2, .slice A3 n3 c3], .int .u8 a, .int .u8 b, .agg #[.int .i64 m, .slice P0 l0 e0, .slice P1 l1 e1, .slice P2 l2 e2], .agg #[.slice T1 l3 e3, .slice T2 l4 e4], .slice I0 l5 e5] w fun e w' => e = .returned (.bool true) ∧ Below w.heap.size w w' := by
  go_enter Tryz.func10, Tryz.ntmps10
  obtain ⟨bk, bc, bt, -, HB⟩ := three_new w (.cells #[.int .i64 rm, .int .i64 pr, .slice A1 n1 c1, .slice A2 n2 c2, .slice A3 n3 c3] 26) (.cells #[.int .i64 m, .slice P0 l0 e0, .slice P1 l1 e1, .slice P2 l2 e2] 54) (.cells #[.slice T1 l3 e3, .slice T2 l4 e4] 29)
  have cbk0 := Joins.cell_of_block bk 0
  have cbk1 := Joins.cell_of_block bk 1
  have cbk2 := Joins.cell_of_block bk 2
  have cbk3 := Joins.cell_of_block bk 3
  have cbk4 := Joins.cell_of_block bk 4
  have zbk := size_of_block bk
  go_wp2_with fail
  generalize (((w.alloc (.cells #[.int .i64 rm, .int .i64 pr, .slice A1 n1 c1, .slice A2 n2 c2, .slice A3 n3 c3] 26)).alloc (.cells #[.int .i64 m, .slice P0 l0 e0, .slice P1 l1 e1, .slice P2 l2 e2] 54)).alloc (.cells #[.slice T1 l3 e3, .slice T2 l4 e4] 29)) = w1 at bk bc bt HB cbk0 cbk1 cbk2 cbk3 cbk4 zbk ⊢
  have hB := HB
  clear HB
  refine (lfew_c rm pr A1 A2 A3 n1 c1 n2 c2 n3 c3 _).mono ?_
  rintro e w2 ⟨rfl, hF⟩
  clear cbk0 cbk1 cbk2 cbk3 cbk4 zbk
  replace bk := (hF.block _ (size_of_block bk)).trans bk
  replace bc := (hF.block _ (size_of_block bc)).trans bc
  replace bt := (hF.block _ (size_of_block bt)).trans bt
  replace hB := below_then hB hF
  clear hF
  rw [h]
  go_wp2_with fail
  refine (sanity_c _).mono ?_
  rintro e w3 ⟨rfl, hF⟩
  replace bk := (hF.block _ (size_of_block bk)).trans bk
  replace bc := (hF.block _ (size_of_block bc)).trans bc
  replace bt := (hF.block _ (size_of_block bt)).trans bt
  replace hB := below_then hB hF
  clear hF
  go_wp2_with fail
  go_ret
  exact ⟨rfl, hB⟩
set_option maxRecDepth 100000 in
set_option maxHeartbeats 8000000 in
theorem SProves_bad (k : Kl) (A1 A2 A3 : Option Addr) (c1 c2 c3 : Nat) (a b : Nat) (m : Int) (P0 : Option Addr) (l0 e0 : Nat) (P1 : Option Addr) (l1 e1 : Nat) (P2 : Option Addr) (l2 e2 : Nat) (T1 : Option Addr) (l3 e3 : Nat) (T2 : Option Addr) (l4 e4 : Nat) (I0 : Option Addr) (l5 e5 : Nat) (w : World) (hk : Kiln w (.agg #[.int .i64 k.room, .int .i64 k.per, .slice A1 k.ls.length c1, .slice A2 k.ds.length c2, .slice A3 k.ws.length c3]) k) (hf : fewB3 k.ls.length k.ds.length k.ws.length = true) (hc : checkI k ≠ 0) : Calls Tryz.prog 10 #[.agg #[.int .i64 k.room, .int .i64 k.per, .slice A1 k.ls.length c1, .slice A2 k.ds.length c2, .slice A3 k.ws.length c3], .int .u8 a, .int .u8 b, .agg #[.int .i64 m, .slice P0 l0 e0, .slice P1 l1 e1, .slice P2 l2 e2], .agg #[.slice T1 l3 e3, .slice T2 l4 e4], .slice I0 l5 e5] w fun e w' => e = .returned (.bool true) ∧ Below w.heap.size w w' := by
  have d0 : (checkI k != 0) = true := by simpa using hc
  have HK := Lib.hid hk
  clear hk
  go_enter Tryz.func10, Tryz.ntmps10
  obtain ⟨bk, bc, bt, -, HB⟩ := three_new w (.cells #[.int .i64 k.room, .int .i64 k.per, .slice A1 k.ls.length c1, .slice A2 k.ds.length c2, .slice A3 k.ws.length c3] 26) (.cells #[.int .i64 m, .slice P0 l0 e0, .slice P1 l1 e1, .slice P2 l2 e2] 54) (.cells #[.slice T1 l3 e3, .slice T2 l4 e4] 29)
  have cbk0 := Joins.cell_of_block bk 0
  have cbk1 := Joins.cell_of_block bk 1
  have cbk2 := Joins.cell_of_block bk 2
  have cbk3 := Joins.cell_of_block bk 3
  have cbk4 := Joins.cell_of_block bk 4
  have zbk := size_of_block bk
  go_wp2_with fail
  generalize (((w.alloc (.cells #[.int .i64 k.room, .int .i64 k.per, .slice A1 k.ls.length c1, .slice A2 k.ds.length c2, .slice A3 k.ws.length c3] 26)).alloc (.cells #[.int .i64 m, .slice P0 l0 e0, .slice P1 l1 e1, .slice P2 l2 e2] 54)).alloc (.cells #[.slice T1 l3 e3, .slice T2 l4 e4] 29)) = w1 at bk bc bt HB cbk0 cbk1 cbk2 cbk3 cbk4 zbk ⊢
  have hB := HB
  clear HB
  refine (lfew_c k.room k.per A1 A2 A3 k.ls.length c1 k.ds.length c2 k.ws.length c3 _).mono ?_
  rintro e w2 ⟨rfl, hF⟩
  clear cbk0 cbk1 cbk2 cbk3 cbk4 zbk
  replace bk := (hF.block _ (size_of_block bk)).trans bk
  replace bc := (hF.block _ (size_of_block bc)).trans bc
  replace bt := (hF.block _ (size_of_block bt)).trans bt
  replace hB := below_then hB hF
  clear hF
  rw [hf]
  have cbk0 := Joins.cell_of_block bk 0
  have cbk1 := Joins.cell_of_block bk 1
  have cbk2 := Joins.cell_of_block bk 2
  have cbk3 := Joins.cell_of_block bk 3
  have cbk4 := Joins.cell_of_block bk 4
  have zbk := size_of_block bk
  go_wp2_with fail
  refine (check_c k _ w2 (HK.out.later hB)).mono ?_
  rintro e w3 ⟨rfl, hF⟩
  clear cbk0 cbk1 cbk2 cbk3 cbk4 zbk
  replace bk := (hF.block _ (size_of_block bk)).trans bk
  replace bc := (hF.block _ (size_of_block bc)).trans bc
  replace bt := (hF.block _ (size_of_block bt)).trans bt
  replace hB := below_then hB hF
  clear hF
  go_wp2_with fail
  refine (sanity_c _).mono ?_
  rintro e w4 ⟨rfl, hF⟩
  replace bk := (hF.block _ (size_of_block bk)).trans bk
  replace bc := (hF.block _ (size_of_block bc)).trans bc
  replace bt := (hF.block _ (size_of_block bt)).trans bt
  replace hB := below_then hB hF
  clear hF
  go_wp2_with fail
  go_ret
  exact ⟨rfl, hB⟩
set_option maxRecDepth 100000 in
set_option maxHeartbeats 8000000 in
theorem SProves_long0 (k : Kl) (A1 A2 A3 : Option Addr) (c1 c2 c3 : Nat) (a b : Nat) (m : Int) (P0 : Option Addr) (l0 e0 : Nat) (P1 : Option Addr) (l1 e1 : Nat) (P2 : Option Addr) (l2 e2 : Nat) (T1 : Option Addr) (l3 e3 : Nat) (T2 : Option Addr) (l4 e4 : Nat) (I0 : Option Addr) (l5 e5 : Nat) (w : World) (hk : Kiln w (.agg #[.int .i64 k.room, .int .i64 k.per, .slice A1 k.ls.length c1, .slice A2 k.ds.length c2, .slice A3 k.ws.length c3]) k) (hf : fewB3 k.ls.length k.ds.length k.ws.length = true) (hc : checkI k = 0)  (g0 : 250 < l5) : Calls Tryz.prog 10 #[.agg #[.int .i64 k.room, .int .i64 k.per, .slice A1 k.ls.length c1, .slice A2 k.ds.length c2, .slice A3 k.ws.length c3], .int .u8 a, .int .u8 b, .agg #[.int .i64 m, .slice P0 l0 e0, .slice P1 l1 e1, .slice P2 l2 e2], .agg #[.slice T1 l3 e3, .slice T2 l4 e4], .slice I0 l5 e5] w fun e w' => e = .returned (.bool true) ∧ Below w.heap.size w w' := by
  have d0 : decide ((l5 : Int) > 250) = true := decide_eq_true (by omega)
  have HK := Lib.hid hk
  clear hk
  go_enter Tryz.func10, Tryz.ntmps10
  obtain ⟨bk, bc, bt, -, HB⟩ := three_new w (.cells #[.int .i64 k.room, .int .i64 k.per, .slice A1 k.ls.length c1, .slice A2 k.ds.length c2, .slice A3 k.ws.length c3] 26) (.cells #[.int .i64 m, .slice P0 l0 e0, .slice P1 l1 e1, .slice P2 l2 e2] 54) (.cells #[.slice T1 l3 e3, .slice T2 l4 e4] 29)
  have cbk0 := Joins.cell_of_block bk 0
  have cbk1 := Joins.cell_of_block bk 1
  have cbk2 := Joins.cell_of_block bk 2
  have cbk3 := Joins.cell_of_block bk 3
  have cbk4 := Joins.cell_of_block bk 4
  have zbk := size_of_block bk
  go_wp2_with fail
  generalize (((w.alloc (.cells #[.int .i64 k.room, .int .i64 k.per, .slice A1 k.ls.length c1, .slice A2 k.ds.length c2, .slice A3 k.ws.length c3] 26)).alloc (.cells #[.int .i64 m, .slice P0 l0 e0, .slice P1 l1 e1, .slice P2 l2 e2] 54)).alloc (.cells #[.slice T1 l3 e3, .slice T2 l4 e4] 29)) = w1 at bk bc bt HB cbk0 cbk1 cbk2 cbk3 cbk4 zbk ⊢
  have hB := HB
  clear HB
  refine (lfew_c k.room k.per A1 A2 A3 k.ls.length c1 k.ds.length c2 k.ws.length c3 _).mono ?_
  rintro e w2 ⟨rfl, hF⟩
  clear cbk0 cbk1 cbk2 cbk3 cbk4 zbk
  replace bk := (hF.block _ (size_of_block bk)).trans bk
  replace bc := (hF.block _ (size_of_block bc)).trans bc
  replace bt := (hF.block _ (size_of_block bt)).trans bt
  replace hB := below_then hB hF
  clear hF
  rw [hf]
  have cbk0 := Joins.cell_of_block bk 0
  have cbk1 := Joins.cell_of_block bk 1
  have cbk2 := Joins.cell_of_block bk 2
  have cbk3 := Joins.cell_of_block bk 3
  have cbk4 := Joins.cell_of_block bk 4
  have zbk := size_of_block bk
  go_wp2_with fail
  refine (check_c k _ w2 (HK.out.later hB)).mono ?_
  rintro e w3 ⟨rfl, hF⟩
  clear cbk0 cbk1 cbk2 cbk3 cbk4 zbk
  replace bk := (hF.block _ (size_of_block bk)).trans bk
  replace bc := (hF.block _ (size_of_block bc)).trans bc
  replace bt := (hF.block _ (size_of_block bt)).trans bt
  replace hB := below_then hB hF
  clear hF
  rw [hc]
  have cbc0 := Joins.cell_of_block bc 0
  have cbc1 := Joins.cell_of_block bc 1
  have cbc2 := Joins.cell_of_block bc 2
  have cbc3 := Joins.cell_of_block bc 3
  have zbc := size_of_block bc
  have cbt0 := Joins.cell_of_block bt 0
  have cbt1 := Joins.cell_of_block bt 1
  have zbt := size_of_block bt
  go_wp2_with fail
  all_goals (try (exfalso; omega))
  refine (sanity_c _).mono ?_
  rintro e w4 ⟨rfl, hF⟩
  clear cbc0 cbc1 cbc2 cbc3 zbc cbt0 cbt1 zbt
  replace bk := (hF.block _ (size_of_block bk)).trans bk
  replace bc := (hF.block _ (size_of_block bc)).trans bc
  replace bt := (hF.block _ (size_of_block bt)).trans bt
  replace hB := below_then hB hF
  clear hF
  go_wp2_with fail
  go_ret
  exact ⟨rfl, hB⟩
set_option maxRecDepth 100000 in
set_option maxHeartbeats 8000000 in
theorem SProves_long1 (k : Kl) (A1 A2 A3 : Option Addr) (c1 c2 c3 : Nat) (a b : Nat) (m : Int) (P0 : Option Addr) (l0 e0 : Nat) (P1 : Option Addr) (l1 e1 : Nat) (P2 : Option Addr) (l2 e2 : Nat) (T1 : Option Addr) (l3 e3 : Nat) (T2 : Option Addr) (l4 e4 : Nat) (I0 : Option Addr) (l5 e5 : Nat) (w : World) (hk : Kiln w (.agg #[.int .i64 k.room, .int .i64 k.per, .slice A1 k.ls.length c1, .slice A2 k.ds.length c2, .slice A3 k.ws.length c3]) k) (hf : fewB3 k.ls.length k.ds.length k.ws.length = true) (hc : checkI k = 0) (g0 : l5 ≤ 250) (g1 : 250 < l0) : Calls Tryz.prog 10 #[.agg #[.int .i64 k.room, .int .i64 k.per, .slice A1 k.ls.length c1, .slice A2 k.ds.length c2, .slice A3 k.ws.length c3], .int .u8 a, .int .u8 b, .agg #[.int .i64 m, .slice P0 l0 e0, .slice P1 l1 e1, .slice P2 l2 e2], .agg #[.slice T1 l3 e3, .slice T2 l4 e4], .slice I0 l5 e5] w fun e w' => e = .returned (.bool true) ∧ Below w.heap.size w w' := by
  have d0 : decide ((l5 : Int) > 250) = false := decide_eq_false (by omega)
  have d1 : decide ((l0 : Int) > 250) = true := decide_eq_true (by omega)
  have HK := Lib.hid hk
  clear hk
  go_enter Tryz.func10, Tryz.ntmps10
  obtain ⟨bk, bc, bt, -, HB⟩ := three_new w (.cells #[.int .i64 k.room, .int .i64 k.per, .slice A1 k.ls.length c1, .slice A2 k.ds.length c2, .slice A3 k.ws.length c3] 26) (.cells #[.int .i64 m, .slice P0 l0 e0, .slice P1 l1 e1, .slice P2 l2 e2] 54) (.cells #[.slice T1 l3 e3, .slice T2 l4 e4] 29)
  have cbk0 := Joins.cell_of_block bk 0
  have cbk1 := Joins.cell_of_block bk 1
  have cbk2 := Joins.cell_of_block bk 2
  have cbk3 := Joins.cell_of_block bk 3
  have cbk4 := Joins.cell_of_block bk 4
  have zbk := size_of_block bk
  go_wp2_with fail
  generalize (((w.alloc (.cells #[.int .i64 k.room, .int .i64 k.per, .slice A1 k.ls.length c1, .slice A2 k.ds.length c2, .slice A3 k.ws.length c3] 26)).alloc (.cells #[.int .i64 m, .slice P0 l0 e0, .slice P1 l1 e1, .slice P2 l2 e2] 54)).alloc (.cells #[.slice T1 l3 e3, .slice T2 l4 e4] 29)) = w1 at bk bc bt HB cbk0 cbk1 cbk2 cbk3 cbk4 zbk ⊢
  have hB := HB
  clear HB
  refine (lfew_c k.room k.per A1 A2 A3 k.ls.length c1 k.ds.length c2 k.ws.length c3 _).mono ?_
  rintro e w2 ⟨rfl, hF⟩
  clear cbk0 cbk1 cbk2 cbk3 cbk4 zbk
  replace bk := (hF.block _ (size_of_block bk)).trans bk
  replace bc := (hF.block _ (size_of_block bc)).trans bc
  replace bt := (hF.block _ (size_of_block bt)).trans bt
  replace hB := below_then hB hF
  clear hF
  rw [hf]
  have cbk0 := Joins.cell_of_block bk 0
  have cbk1 := Joins.cell_of_block bk 1
  have cbk2 := Joins.cell_of_block bk 2
  have cbk3 := Joins.cell_of_block bk 3
  have cbk4 := Joins.cell_of_block bk 4
  have zbk := size_of_block bk
  go_wp2_with fail
  refine (check_c k _ w2 (HK.out.later hB)).mono ?_
  rintro e w3 ⟨rfl, hF⟩
  clear cbk0 cbk1 cbk2 cbk3 cbk4 zbk
  replace bk := (hF.block _ (size_of_block bk)).trans bk
  replace bc := (hF.block _ (size_of_block bc)).trans bc
  replace bt := (hF.block _ (size_of_block bt)).trans bt
  replace hB := below_then hB hF
  clear hF
  rw [hc]
  have cbc0 := Joins.cell_of_block bc 0
  have cbc1 := Joins.cell_of_block bc 1
  have cbc2 := Joins.cell_of_block bc 2
  have cbc3 := Joins.cell_of_block bc 3
  have zbc := size_of_block bc
  have cbt0 := Joins.cell_of_block bt 0
  have cbt1 := Joins.cell_of_block bt 1
  have zbt := size_of_block bt
  go_wp2_with fail
  all_goals (try (exfalso; omega))
  refine (sanity_c _).mono ?_
  rintro e w4 ⟨rfl, hF⟩
  clear cbc0 cbc1 cbc2 cbc3 zbc cbt0 cbt1 zbt
  replace bk := (hF.block _ (size_of_block bk)).trans bk
  replace bc := (hF.block _ (size_of_block bc)).trans bc
  replace bt := (hF.block _ (size_of_block bt)).trans bt
  replace hB := below_then hB hF
  clear hF
  go_wp2_with fail
  go_ret
  exact ⟨rfl, hB⟩
set_option maxRecDepth 100000 in
set_option maxHeartbeats 8000000 in
theorem SProves_long2 (k : Kl) (A1 A2 A3 : Option Addr) (c1 c2 c3 : Nat) (a b : Nat) (m : Int) (P0 : Option Addr) (l0 e0 : Nat) (P1 : Option Addr) (l1 e1 : Nat) (P2 : Option Addr) (l2 e2 : Nat) (T1 : Option Addr) (l3 e3 : Nat) (T2 : Option Addr) (l4 e4 : Nat) (I0 : Option Addr) (l5 e5 : Nat) (w : World) (hk : Kiln w (.agg #[.int .i64 k.room, .int .i64 k.per, .slice A1 k.ls.length c1, .slice A2 k.ds.length c2, .slice A3 k.ws.length c3]) k) (hf : fewB3 k.ls.length k.ds.length k.ws.length = true) (hc : checkI k = 0) (g0 : l5 ≤ 250) (g1 : l0 ≤ 250) (g2 : 60 < l1) : Calls Tryz.prog 10 #[.agg #[.int .i64 k.room, .int .i64 k.per, .slice A1 k.ls.length c1, .slice A2 k.ds.length c2, .slice A3 k.ws.length c3], .int .u8 a, .int .u8 b, .agg #[.int .i64 m, .slice P0 l0 e0, .slice P1 l1 e1, .slice P2 l2 e2], .agg #[.slice T1 l3 e3, .slice T2 l4 e4], .slice I0 l5 e5] w fun e w' => e = .returned (.bool true) ∧ Below w.heap.size w w' := by
  have d0 : decide ((l5 : Int) > 250) = false := decide_eq_false (by omega)
  have d1 : decide ((l0 : Int) > 250) = false := decide_eq_false (by omega)
  have d2 : decide ((l1 : Int) > 60) = true := decide_eq_true (by omega)
  have HK := Lib.hid hk
  clear hk
  go_enter Tryz.func10, Tryz.ntmps10
  obtain ⟨bk, bc, bt, -, HB⟩ := three_new w (.cells #[.int .i64 k.room, .int .i64 k.per, .slice A1 k.ls.length c1, .slice A2 k.ds.length c2, .slice A3 k.ws.length c3] 26) (.cells #[.int .i64 m, .slice P0 l0 e0, .slice P1 l1 e1, .slice P2 l2 e2] 54) (.cells #[.slice T1 l3 e3, .slice T2 l4 e4] 29)
  have cbk0 := Joins.cell_of_block bk 0
  have cbk1 := Joins.cell_of_block bk 1
  have cbk2 := Joins.cell_of_block bk 2
  have cbk3 := Joins.cell_of_block bk 3
  have cbk4 := Joins.cell_of_block bk 4
  have zbk := size_of_block bk
  go_wp2_with fail
  generalize (((w.alloc (.cells #[.int .i64 k.room, .int .i64 k.per, .slice A1 k.ls.length c1, .slice A2 k.ds.length c2, .slice A3 k.ws.length c3] 26)).alloc (.cells #[.int .i64 m, .slice P0 l0 e0, .slice P1 l1 e1, .slice P2 l2 e2] 54)).alloc (.cells #[.slice T1 l3 e3, .slice T2 l4 e4] 29)) = w1 at bk bc bt HB cbk0 cbk1 cbk2 cbk3 cbk4 zbk ⊢
  have hB := HB
  clear HB
  refine (lfew_c k.room k.per A1 A2 A3 k.ls.length c1 k.ds.length c2 k.ws.length c3 _).mono ?_
  rintro e w2 ⟨rfl, hF⟩
  clear cbk0 cbk1 cbk2 cbk3 cbk4 zbk
  replace bk := (hF.block _ (size_of_block bk)).trans bk
  replace bc := (hF.block _ (size_of_block bc)).trans bc
  replace bt := (hF.block _ (size_of_block bt)).trans bt
  replace hB := below_then hB hF
  clear hF
  rw [hf]
  have cbk0 := Joins.cell_of_block bk 0
  have cbk1 := Joins.cell_of_block bk 1
  have cbk2 := Joins.cell_of_block bk 2
  have cbk3 := Joins.cell_of_block bk 3
  have cbk4 := Joins.cell_of_block bk 4
  have zbk := size_of_block bk
  go_wp2_with fail
  refine (check_c k _ w2 (HK.out.later hB)).mono ?_
  rintro e w3 ⟨rfl, hF⟩
  clear cbk0 cbk1 cbk2 cbk3 cbk4 zbk
  replace bk := (hF.block _ (size_of_block bk)).trans bk
  replace bc := (hF.block _ (size_of_block bc)).trans bc
  replace bt := (hF.block _ (size_of_block bt)).trans bt
  replace hB := below_then hB hF
  clear hF
  rw [hc]
  have cbc0 := Joins.cell_of_block bc 0
  have cbc1 := Joins.cell_of_block bc 1
  have cbc2 := Joins.cell_of_block bc 2
  have cbc3 := Joins.cell_of_block bc 3
  have zbc := size_of_block bc
  have cbt0 := Joins.cell_of_block bt 0
  have cbt1 := Joins.cell_of_block bt 1
  have zbt := size_of_block bt
  go_wp2_with fail
  all_goals (try (exfalso; omega))
  refine (sanity_c _).mono ?_
  rintro e w4 ⟨rfl, hF⟩
  clear cbc0 cbc1 cbc2 cbc3 zbc cbt0 cbt1 zbt
  replace bk := (hF.block _ (size_of_block bk)).trans bk
  replace bc := (hF.block _ (size_of_block bc)).trans bc
  replace bt := (hF.block _ (size_of_block bt)).trans bt
  replace hB := below_then hB hF
  clear hF
  go_wp2_with fail
  go_ret
  exact ⟨rfl, hB⟩
set_option maxRecDepth 100000 in
set_option maxHeartbeats 8000000 in
theorem SProves_long3 (k : Kl) (A1 A2 A3 : Option Addr) (c1 c2 c3 : Nat) (a b : Nat) (m : Int) (P0 : Option Addr) (l0 e0 : Nat) (P1 : Option Addr) (l1 e1 : Nat) (P2 : Option Addr) (l2 e2 : Nat) (T1 : Option Addr) (l3 e3 : Nat) (T2 : Option Addr) (l4 e4 : Nat) (I0 : Option Addr) (l5 e5 : Nat) (w : World) (hk : Kiln w (.agg #[.int .i64 k.room, .int .i64 k.per, .slice A1 k.ls.length c1, .slice A2 k.ds.length c2, .slice A3 k.ws.length c3]) k) (hf : fewB3 k.ls.length k.ds.length k.ws.length = true) (hc : checkI k = 0) (g0 : l5 ≤ 250) (g1 : l0 ≤ 250) (g2 : l1 ≤ 60) (g3 : 60 < l2) : Calls Tryz.prog 10 #[.agg #[.int .i64 k.room, .int .i64 k.per, .slice A1 k.ls.length c1, .slice A2 k.ds.length c2, .slice A3 k.ws.length c3], .int .u8 a, .int .u8 b, .agg #[.int .i64 m, .slice P0 l0 e0, .slice P1 l1 e1, .slice P2 l2 e2], .agg #[.slice T1 l3 e3, .slice T2 l4 e4], .slice I0 l5 e5] w fun e w' => e = .returned (.bool true) ∧ Below w.heap.size w w' := by
  have d0 : decide ((l5 : Int) > 250) = false := decide_eq_false (by omega)
  have d1 : decide ((l0 : Int) > 250) = false := decide_eq_false (by omega)
  have d2 : decide ((l1 : Int) > 60) = false := decide_eq_false (by omega)
  have d3 : decide ((l2 : Int) > 60) = true := decide_eq_true (by omega)
  have HK := Lib.hid hk
  clear hk
  go_enter Tryz.func10, Tryz.ntmps10
  obtain ⟨bk, bc, bt, -, HB⟩ := three_new w (.cells #[.int .i64 k.room, .int .i64 k.per, .slice A1 k.ls.length c1, .slice A2 k.ds.length c2, .slice A3 k.ws.length c3] 26) (.cells #[.int .i64 m, .slice P0 l0 e0, .slice P1 l1 e1, .slice P2 l2 e2] 54) (.cells #[.slice T1 l3 e3, .slice T2 l4 e4] 29)
  have cbk0 := Joins.cell_of_block bk 0
  have cbk1 := Joins.cell_of_block bk 1
  have cbk2 := Joins.cell_of_block bk 2
  have cbk3 := Joins.cell_of_block bk 3
  have cbk4 := Joins.cell_of_block bk 4
  have zbk := size_of_block bk
  go_wp2_with fail
  generalize (((w.alloc (.cells #[.int .i64 k.room, .int .i64 k.per, .slice A1 k.ls.length c1, .slice A2 k.ds.length c2, .slice A3 k.ws.length c3] 26)).alloc (.cells #[.int .i64 m, .slice P0 l0 e0, .slice P1 l1 e1, .slice P2 l2 e2] 54)).alloc (.cells #[.slice T1 l3 e3, .slice T2 l4 e4] 29)) = w1 at bk bc bt HB cbk0 cbk1 cbk2 cbk3 cbk4 zbk ⊢
  have hB := HB
  clear HB
  refine (lfew_c k.room k.per A1 A2 A3 k.ls.length c1 k.ds.length c2 k.ws.length c3 _).mono ?_
  rintro e w2 ⟨rfl, hF⟩
  clear cbk0 cbk1 cbk2 cbk3 cbk4 zbk
  replace bk := (hF.block _ (size_of_block bk)).trans bk
  replace bc := (hF.block _ (size_of_block bc)).trans bc
  replace bt := (hF.block _ (size_of_block bt)).trans bt
  replace hB := below_then hB hF
  clear hF
  rw [hf]
  have cbk0 := Joins.cell_of_block bk 0
  have cbk1 := Joins.cell_of_block bk 1
  have cbk2 := Joins.cell_of_block bk 2
  have cbk3 := Joins.cell_of_block bk 3
  have cbk4 := Joins.cell_of_block bk 4
  have zbk := size_of_block bk
  go_wp2_with fail
  refine (check_c k _ w2 (HK.out.later hB)).mono ?_
  rintro e w3 ⟨rfl, hF⟩
  clear cbk0 cbk1 cbk2 cbk3 cbk4 zbk
  replace bk := (hF.block _ (size_of_block bk)).trans bk
  replace bc := (hF.block _ (size_of_block bc)).trans bc
  replace bt := (hF.block _ (size_of_block bt)).trans bt
  replace hB := below_then hB hF
  clear hF
  rw [hc]
  have cbc0 := Joins.cell_of_block bc 0
  have cbc1 := Joins.cell_of_block bc 1
  have cbc2 := Joins.cell_of_block bc 2
  have cbc3 := Joins.cell_of_block bc 3
  have zbc := size_of_block bc
  have cbt0 := Joins.cell_of_block bt 0
  have cbt1 := Joins.cell_of_block bt 1
  have zbt := size_of_block bt
  go_wp2_with fail
  all_goals (try (exfalso; omega))
  refine (sanity_c _).mono ?_
  rintro e w4 ⟨rfl, hF⟩
  clear cbc0 cbc1 cbc2 cbc3 zbc cbt0 cbt1 zbt
  replace bk := (hF.block _ (size_of_block bk)).trans bk
  replace bc := (hF.block _ (size_of_block bc)).trans bc
  replace bt := (hF.block _ (size_of_block bt)).trans bt
  replace hB := below_then hB hF
  clear hF
  go_wp2_with fail
  go_ret
  exact ⟨rfl, hB⟩
set_option maxRecDepth 100000 in
set_option maxHeartbeats 8000000 in
theorem SProves_long4 (k : Kl) (A1 A2 A3 : Option Addr) (c1 c2 c3 : Nat) (a b : Nat) (m : Int) (P0 : Option Addr) (l0 e0 : Nat) (P1 : Option Addr) (l1 e1 : Nat) (P2 : Option Addr) (l2 e2 : Nat) (T1 : Option Addr) (l3 e3 : Nat) (T2 : Option Addr) (l4 e4 : Nat) (I0 : Option Addr) (l5 e5 : Nat) (w : World) (hk : Kiln w (.agg #[.int .i64 k.room, .int .i64 k.per, .slice A1 k.ls.length c1, .slice A2 k.ds.length c2, .slice A3 k.ws.length c3]) k) (hf : fewB3 k.ls.length k.ds.length k.ws.length = true) (hc : checkI k = 0) (g0 : l5 ≤ 250) (g1 : l0 ≤ 250) (g2 : l1 ≤ 60) (g3 : l2 ≤ 60) (g4 : 60 < l3) : Calls Tryz.prog 10 #[.agg #[.int .i64 k.room, .int .i64 k.per, .slice A1 k.ls.length c1, .slice A2 k.ds.length c2, .slice A3 k.ws.length c3], .int .u8 a, .int .u8 b, .agg #[.int .i64 m, .slice P0 l0 e0, .slice P1 l1 e1, .slice P2 l2 e2], .agg #[.slice T1 l3 e3, .slice T2 l4 e4], .slice I0 l5 e5] w fun e w' => e = .returned (.bool true) ∧ Below w.heap.size w w' := by
  have d0 : decide ((l5 : Int) > 250) = false := decide_eq_false (by omega)
  have d1 : decide ((l0 : Int) > 250) = false := decide_eq_false (by omega)
  have d2 : decide ((l1 : Int) > 60) = false := decide_eq_false (by omega)
  have d3 : decide ((l2 : Int) > 60) = false := decide_eq_false (by omega)
  have d4 : decide ((l3 : Int) > 60) = true := decide_eq_true (by omega)
  have HK := Lib.hid hk
  clear hk
  go_enter Tryz.func10, Tryz.ntmps10
  obtain ⟨bk, bc, bt, -, HB⟩ := three_new w (.cells #[.int .i64 k.room, .int .i64 k.per, .slice A1 k.ls.length c1, .slice A2 k.ds.length c2, .slice A3 k.ws.length c3] 26) (.cells #[.int .i64 m, .slice P0 l0 e0, .slice P1 l1 e1, .slice P2 l2 e2] 54) (.cells #[.slice T1 l3 e3, .slice T2 l4 e4] 29)
  have cbk0 := Joins.cell_of_block bk 0
  have cbk1 := Joins.cell_of_block bk 1
  have cbk2 := Joins.cell_of_block bk 2
  have cbk3 := Joins.cell_of_block bk 3
  have cbk4 := Joins.cell_of_block bk 4
  have zbk := size_of_block bk
  go_wp2_with fail
  generalize (((w.alloc (.cells #[.int .i64 k.room, .int .i64 k.per, .slice A1 k.ls.length c1, .slice A2 k.ds.length c2, .slice A3 k.ws.length c3] 26)).alloc (.cells #[.int .i64 m, .slice P0 l0 e0, .slice P1 l1 e1, .slice P2 l2 e2] 54)).alloc (.cells #[.slice T1 l3 e3, .slice T2 l4 e4] 29)) = w1 at bk bc bt HB cbk0 cbk1 cbk2 cbk3 cbk4 zbk ⊢
  have hB := HB
  clear HB
  refine (lfew_c k.room k.per A1 A2 A3 k.ls.length c1 k.ds.length c2 k.ws.length c3 _).mono ?_
  rintro e w2 ⟨rfl, hF⟩
  clear cbk0 cbk1 cbk2 cbk3 cbk4 zbk
  replace bk := (hF.block _ (size_of_block bk)).trans bk
  replace bc := (hF.block _ (size_of_block bc)).trans bc
  replace bt := (hF.block _ (size_of_block bt)).trans bt
  replace hB := below_then hB hF
  clear hF
  rw [hf]
  have cbk0 := Joins.cell_of_block bk 0
  have cbk1 := Joins.cell_of_block bk 1
  have cbk2 := Joins.cell_of_block bk 2
  have cbk3 := Joins.cell_of_block bk 3
  have cbk4 := Joins.cell_of_block bk 4
  have zbk := size_of_block bk
  go_wp2_with fail
  refine (check_c k _ w2 (HK.out.later hB)).mono ?_
  rintro e w3 ⟨rfl, hF⟩
  clear cbk0 cbk1 cbk2 cbk3 cbk4 zbk
  replace bk := (hF.block _ (size_of_block bk)).trans bk
  replace bc := (hF.block _ (size_of_block bc)).trans bc
  replace bt := (hF.block _ (size_of_block bt)).trans bt
  replace hB := below_then hB hF
  clear hF
  rw [hc]
  have cbc0 := Joins.cell_of_block bc 0
  have cbc1 := Joins.cell_of_block bc 1
  have cbc2 := Joins.cell_of_block bc 2
  have cbc3 := Joins.cell_of_block bc 3
  have zbc := size_of_block bc
  have cbt0 := Joins.cell_of_block bt 0
  have cbt1 := Joins.cell_of_block bt 1
  have zbt := size_of_block bt
  go_wp2_with fail
  all_goals (try (exfalso; omega))
  refine (sanity_c _).mono ?_
  rintro e w4 ⟨rfl, hF⟩
  clear cbc0 cbc1 cbc2 cbc3 zbc cbt0 cbt1 zbt
  replace bk := (hF.block _ (size_of_block bk)).trans bk
  replace bc := (hF.block _ (size_of_block bc)).trans bc
  replace bt := (hF.block _ (size_of_block bt)).trans bt
  replace hB := below_then hB hF
  clear hF
  go_wp2_with fail
  go_ret
  exact ⟨rfl, hB⟩
set_option maxRecDepth 100000 in
set_option maxHeartbeats 8000000 in
theorem SProves_long5 (k : Kl) (A1 A2 A3 : Option Addr) (c1 c2 c3 : Nat) (a b : Nat) (m : Int) (P0 : Option Addr) (l0 e0 : Nat) (P1 : Option Addr) (l1 e1 : Nat) (P2 : Option Addr) (l2 e2 : Nat) (T1 : Option Addr) (l3 e3 : Nat) (T2 : Option Addr) (l4 e4 : Nat) (I0 : Option Addr) (l5 e5 : Nat) (w : World) (hk : Kiln w (.agg #[.int .i64 k.room, .int .i64 k.per, .slice A1 k.ls.length c1, .slice A2 k.ds.length c2, .slice A3 k.ws.length c3]) k) (hf : fewB3 k.ls.length k.ds.length k.ws.length = true) (hc : checkI k = 0) (g0 : l5 ≤ 250) (g1 : l0 ≤ 250) (g2 : l1 ≤ 60) (g3 : l2 ≤ 60) (g4 : l3 ≤ 60) (g5 : 60 < l4) : Calls Tryz.prog 10 #[.agg #[.int .i64 k.room, .int .i64 k.per, .slice A1 k.ls.length c1, .slice A2 k.ds.length c2, .slice A3 k.ws.length c3], .int .u8 a, .int .u8 b, .agg #[.int .i64 m, .slice P0 l0 e0, .slice P1 l1 e1, .slice P2 l2 e2], .agg #[.slice T1 l3 e3, .slice T2 l4 e4], .slice I0 l5 e5] w fun e w' => e = .returned (.bool true) ∧ Below w.heap.size w w' := by
  have d0 : decide ((l5 : Int) > 250) = false := decide_eq_false (by omega)
  have d1 : decide ((l0 : Int) > 250) = false := decide_eq_false (by omega)
  have d2 : decide ((l1 : Int) > 60) = false := decide_eq_false (by omega)
  have d3 : decide ((l2 : Int) > 60) = false := decide_eq_false (by omega)
  have d4 : decide ((l3 : Int) > 60) = false := decide_eq_false (by omega)
  have d5 : decide ((l4 : Int) > 60) = true := decide_eq_true (by omega)
  have HK := Lib.hid hk
  clear hk
  go_enter Tryz.func10, Tryz.ntmps10
  obtain ⟨bk, bc, bt, -, HB⟩ := three_new w (.cells #[.int .i64 k.room, .int .i64 k.per, .slice A1 k.ls.length c1, .slice A2 k.ds.length c2, .slice A3 k.ws.length c3] 26) (.cells #[.int .i64 m, .slice P0 l0 e0, .slice P1 l1 e1, .slice P2 l2 e2] 54) (.cells #[.slice T1 l3 e3, .slice T2 l4 e4] 29)
  have cbk0 := Joins.cell_of_block bk 0
  have cbk1 := Joins.cell_of_block bk 1
  have cbk2 := Joins.cell_of_block bk 2
  have cbk3 := Joins.cell_of_block bk 3
  have cbk4 := Joins.cell_of_block bk 4
  have zbk := size_of_block bk
  go_wp2_with fail
  generalize (((w.alloc (.cells #[.int .i64 k.room, .int .i64 k.per, .slice A1 k.ls.length c1, .slice A2 k.ds.length c2, .slice A3 k.ws.length c3] 26)).alloc (.cells #[.int .i64 m, .slice P0 l0 e0, .slice P1 l1 e1, .slice P2 l2 e2] 54)).alloc (.cells #[.slice T1 l3 e3, .slice T2 l4 e4] 29)) = w1 at bk bc bt HB cbk0 cbk1 cbk2 cbk3 cbk4 zbk ⊢
  have hB := HB
  clear HB
  refine (lfew_c k.room k.per A1 A2 A3 k.ls.length c1 k.ds.length c2 k.ws.length c3 _).mono ?_
  rintro e w2 ⟨rfl, hF⟩
  clear cbk0 cbk1 cbk2 cbk3 cbk4 zbk
  replace bk := (hF.block _ (size_of_block bk)).trans bk
  replace bc := (hF.block _ (size_of_block bc)).trans bc
  replace bt := (hF.block _ (size_of_block bt)).trans bt
  replace hB := below_then hB hF
  clear hF
  rw [hf]
  have cbk0 := Joins.cell_of_block bk 0
  have cbk1 := Joins.cell_of_block bk 1
  have cbk2 := Joins.cell_of_block bk 2
  have cbk3 := Joins.cell_of_block bk 3
  have cbk4 := Joins.cell_of_block bk 4
  have zbk := size_of_block bk
  go_wp2_with fail
  refine (check_c k _ w2 (HK.out.later hB)).mono ?_
  rintro e w3 ⟨rfl, hF⟩
  clear cbk0 cbk1 cbk2 cbk3 cbk4 zbk
  replace bk := (hF.block _ (size_of_block bk)).trans bk
  replace bc := (hF.block _ (size_of_block bc)).trans bc
  replace bt := (hF.block _ (size_of_block bt)).trans bt
  replace hB := below_then hB hF
  clear hF
  rw [hc]
  have cbc0 := Joins.cell_of_block bc 0
  have cbc1 := Joins.cell_of_block bc 1
  have cbc2 := Joins.cell_of_block bc 2
  have cbc3 := Joins.cell_of_block bc 3
  have zbc := size_of_block bc
  have cbt0 := Joins.cell_of_block bt 0
  have cbt1 := Joins.cell_of_block bt 1
  have zbt := size_of_block bt
  go_wp2_with fail
  all_goals (try (exfalso; omega))
  refine (sanity_c _).mono ?_
  rintro e w4 ⟨rfl, hF⟩
  clear cbc0 cbc1 cbc2 cbc3 zbc cbt0 cbt1 zbt
  replace bk := (hF.block _ (size_of_block bk)).trans bk
  replace bc := (hF.block _ (size_of_block bc)).trans bc
  replace bt := (hF.block _ (size_of_block bt)).trans bt
  replace hB := below_then hB hF
  clear hF
  go_wp2_with fail
  go_ret
  exact ⟨rfl, hB⟩
end Go.Proofs.YtpgepfbdjefmdaaGreat
