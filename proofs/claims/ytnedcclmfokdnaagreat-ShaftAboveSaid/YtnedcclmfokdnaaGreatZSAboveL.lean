/- ShaftAbove: the walk (written by tools/gensabovel.py). -/
import Derived.Test.YtnedcclmfokdnaaGreatJ27
import Derived.Test.YtnedcclmfokdnaaGreatZSRefCa
import Derived.Test.YtnedcclmfokdnaaGreatZSBent
import Derived.Test.YtnedcclmfokdnaaGreatZWR
import Derived.Test.YtnedcclmfokdnaaGreatZSAbFE
namespace Go.Proofs.YtnedcclmfokdnaaGreat
open Go Go.RowKit Go.Shelf
attribute [local go_sem] Oper.semAt_some Rel RelAt RelUpon

theorem Above_ok (k : Kl) (v : Value) (fr tu : Int) (w : World) (hv : Kiln w v k) (h0 : (mostE k fr tu).2 = 0) :
    Calls Tryz.prog 30 #[v, .int .i64 fr, .int .i64 tu] w fun e w' => ∃ A0 c0 A1 c1 A2 c2 pp tl td, e = .returned (.tuple #[.agg #[.int .i64 (mostE k fr tu).1, .slice A0 (pp : List Int).length c0, .slice A1 (tl : List Int).length c1, .slice A2 (td : List Int).length c2], .int .i64 0]) ∧
      (w'.ownsRow w.heap.size 3 1 (.slice A0 pp.length c0) pp.length (pp.map (Value.int .i64)) ∧ w'.ownsRow w.heap.size 3 1 (.slice A1 tl.length c1) tl.length (tl.map (Value.int .i64)) ∧ w'.ownsRow w.heap.size 3 1 (.slice A2 td.length c2) td.length (td.map (Value.int .i64)) ∧
      aboveC k fr tu (mostE k fr tu).1 pp tl td = 0 ∧ pp.length ≤ 41 ∧ tl.length ≤ 20 ∧ td.length ≤ 20) ∧ Below w.heap.size w w' := by
  refine (Above_f k v fr tu w hv).mono ?_
  rintro e w' ⟨A0, c0, A1, c1, A2, c2, pp, tl, td, rfl, ⟨h1, h2, h3, h4, _⟩, hb⟩
  obtain ⟨r1, r2, r3, r4, r5, r6⟩ := most_rng h0
  have hR := right_of_check r1
  have hA := h4 h0
  obtain ⟨_, f2, f3, _⟩ := above_facts hR r3 r4 hA
  have e1 := (wtsB_iff.1 f3.1).1
  have e2 := (wtsB_iff.1 f3.2.1).1
  have := hR.ls
  have := hR.ds
  exact ⟨A0, c0, A1, c1, A2, c2, pp, tl, td, by rw [h0], ⟨h1, h2, h3, above_accepts r1 r2 r3 r4 hA, f2, by omega, by omega⟩, hb⟩
theorem Above_err (k : Kl) (v : Value) (fr tu : Int) (w : World) (hv : Kiln w v k) (h0 : (mostE k fr tu).2 ≠ 0) :
    Calls Tryz.prog 30 #[v, .int .i64 fr, .int .i64 tu] w fun e w' => ∃ A0 c0 A1 c1 A2 c2, e = .returned (.tuple #[.agg #[.int .i64 0, .slice A0 0 c0, .slice A1 0 c1, .slice A2 0 c2], .int .i64 (mostE k fr tu).2]) ∧ Below w.heap.size w w' := by
  refine (Above_f k v fr tu w hv).mono ?_
  rintro e w' ⟨A0, c0, A1, c1, A2, c2, pp, tl, td, rfl, ⟨_, _, _, _, h5⟩, hb⟩
  obtain ⟨rfl, rfl, rfl⟩ := h5 h0
  exact ⟨A0, c0, A1, c1, A2, c2, by rw [most_zero h0]; rfl, hb⟩
set_option maxRecDepth 100000 in
set_option maxHeartbeats 8000000 in
theorem SAb_no (rm pr : Int) (A1 : Option Addr) (n1 c1 : Nat) (A2 : Option Addr) (n2 c2 : Nat) (A3 : Option Addr) (n3 c3 : Nat) (fr tu m : Int) (P0 : Option Addr) (l0 e0 : Nat) (P1 : Option Addr) (l1 e1 : Nat) (P2 : Option Addr) (l2 e2 : Nat) (a : Nat) (n : Int) (w : World) (h : fewB3 n1 n2 n3 = false) : Calls Tryz.prog 5 #[.agg #[.int .i64 rm, .int .i64 pr, .slice A1 n1 c1, .slice A2 n2 c2, .slice A3 n3 c3], .int .i64 fr, .int .i64 tu, .agg #[.int .i64 m, .slice P0 l0 e0, .slice P1 l1 e1, .slice P2 l2 e2], .int .u8 a, .int .i64 n] w fun e w' => e = .returned (.bool true) ∧ Below w.heap.size w w' := by
  go_enter Tryz.func5, Tryz.ntmps5
  obtain ⟨bk, b9, -, HB⟩ := two_new' w (.cells #[.int .i64 rm, .int .i64 pr, .slice A1 n1 c1, .slice A2 n2 c2, .slice A3 n3 c3] 26) (.cells #[.int .i64 m, .slice P0 l0 e0, .slice P1 l1 e1, .slice P2 l2 e2] 54)
  have cbk0 := Joins.cell_of_block bk 0
  have cbk1 := Joins.cell_of_block bk 1
  have cbk2 := Joins.cell_of_block bk 2
  have cbk3 := Joins.cell_of_block bk 3
  have cbk4 := Joins.cell_of_block bk 4
  have zbk := size_of_block bk
  go_wp2_with fail
  generalize ((w.alloc (.cells #[.int .i64 rm, .int .i64 pr, .slice A1 n1 c1, .slice A2 n2 c2, .slice A3 n3 c3] 26)).alloc (.cells #[.int .i64 m, .slice P0 l0 e0, .slice P1 l1 e1, .slice P2 l2 e2] 54)) = w1 at bk b9 HB cbk0 cbk1 cbk2 cbk3 cbk4 zbk ⊢
  have hB := HB
  clear HB
  refine (lfew_c rm pr A1 A2 A3 n1 c1 n2 c2 n3 c3 _).mono ?_
  rintro e w2 ⟨rfl, hF⟩
  clear cbk0 cbk1 cbk2 cbk3 cbk4 zbk
  replace bk := (hF.block _ (size_of_block bk)).trans bk
  replace b9 := (hF.block _ (size_of_block b9)).trans b9
  replace hB := below_then hB hF
  clear hF
  rw [h]
  go_wp2_with fail
  refine (sanity_c _).mono ?_
  rintro e w3 ⟨rfl, hF⟩
  replace bk := (hF.block _ (size_of_block bk)).trans bk
  replace b9 := (hF.block _ (size_of_block b9)).trans b9
  replace hB := below_then hB hF
  clear hF
  go_wp2_with fail
  go_ret
  exact ⟨rfl, hB⟩
set_option maxRecDepth 100000 in
set_option maxHeartbeats 8000000 in
theorem SAb_long0 (k : Kl) (A1 A2 A3 : Option Addr) (c1 c2 c3 : Nat) (fr tu m : Int) (P0 : Option Addr) (l0 e0 : Nat) (P1 : Option Addr) (l1 e1 : Nat) (P2 : Option Addr) (l2 e2 : Nat) (a : Nat) (n : Int) (w : World) (hk : Kiln w (.agg #[.int .i64 k.room, .int .i64 k.per, .slice A1 k.ls.length c1, .slice A2 k.ds.length c2, .slice A3 k.ws.length c3]) k) (hf : fewB3 k.ls.length k.ds.length k.ws.length = true)  (g0 : 250 < l0) : Calls Tryz.prog 5 #[.agg #[.int .i64 k.room, .int .i64 k.per, .slice A1 k.ls.length c1, .slice A2 k.ds.length c2, .slice A3 k.ws.length c3], .int .i64 fr, .int .i64 tu, .agg #[.int .i64 m, .slice P0 l0 e0, .slice P1 l1 e1, .slice P2 l2 e2], .int .u8 a, .int .i64 n] w fun e w' => e = .returned (.bool true) ∧ Below w.heap.size w w' := by
  have HK := Lib.hid hk
  clear hk
  go_enter Tryz.func5, Tryz.ntmps5
  obtain ⟨bk, b9, -, HB⟩ := two_new' w (.cells #[.int .i64 k.room, .int .i64 k.per, .slice A1 k.ls.length c1, .slice A2 k.ds.length c2, .slice A3 k.ws.length c3] 26) (.cells #[.int .i64 m, .slice P0 l0 e0, .slice P1 l1 e1, .slice P2 l2 e2] 54)
  have cbk0 := Joins.cell_of_block bk 0
  have cbk1 := Joins.cell_of_block bk 1
  have cbk2 := Joins.cell_of_block bk 2
  have cbk3 := Joins.cell_of_block bk 3
  have cbk4 := Joins.cell_of_block bk 4
  have zbk := size_of_block bk
  go_wp2_with fail
  generalize ((w.alloc (.cells #[.int .i64 k.room, .int .i64 k.per, .slice A1 k.ls.length c1, .slice A2 k.ds.length c2, .slice A3 k.ws.length c3] 26)).alloc (.cells #[.int .i64 m, .slice P0 l0 e0, .slice P1 l1 e1, .slice P2 l2 e2] 54)) = w1 at bk b9 HB cbk0 cbk1 cbk2 cbk3 cbk4 zbk ⊢
  have hB := HB
  clear HB
  refine (lfew_c k.room k.per A1 A2 A3 k.ls.length c1 k.ds.length c2 k.ws.length c3 _).mono ?_
  rintro e w2 ⟨rfl, hF⟩
  clear cbk0 cbk1 cbk2 cbk3 cbk4 zbk
  replace bk := (hF.block _ (size_of_block bk)).trans bk
  replace b9 := (hF.block _ (size_of_block b9)).trans b9
  replace hB := below_then hB hF
  clear hF
  rw [hf]
  have cb90 := Joins.cell_of_block b9 0
  have cb91 := Joins.cell_of_block b9 1
  have cb92 := Joins.cell_of_block b9 2
  have cb93 := Joins.cell_of_block b9 3
  have zb9 := size_of_block b9
  go_wp2_with fail
  all_goals (try (exfalso; omega))
  refine (sanity_c _).mono ?_
  rintro e w3 ⟨rfl, hF⟩
  clear cb90 cb91 cb92 cb93 zb9
  replace bk := (hF.block _ (size_of_block bk)).trans bk
  replace b9 := (hF.block _ (size_of_block b9)).trans b9
  replace hB := below_then hB hF
  clear hF
  go_wp2_with fail
  go_ret
  exact ⟨rfl, hB⟩
set_option maxRecDepth 100000 in
set_option maxHeartbeats 8000000 in
theorem SAb_long1 (k : Kl) (A1 A2 A3 : Option Addr) (c1 c2 c3 : Nat) (fr tu m : Int) (P0 : Option Addr) (l0 e0 : Nat) (P1 : Option Addr) (l1 e1 : Nat) (P2 : Option Addr) (l2 e2 : Nat) (a : Nat) (n : Int) (w : World) (hk : Kiln w (.agg #[.int .i64 k.room, .int .i64 k.per, .slice A1 k.ls.length c1, .slice A2 k.ds.length c2, .slice A3 k.ws.length c3]) k) (hf : fewB3 k.ls.length k.ds.length k.ws.length = true) (g0 : l0 ≤ 250) (g1 : 60 < l1) : Calls Tryz.prog 5 #[.agg #[.int .i64 k.room, .int .i64 k.per, .slice A1 k.ls.length c1, .slice A2 k.ds.length c2, .slice A3 k.ws.length c3], .int .i64 fr, .int .i64 tu, .agg #[.int .i64 m, .slice P0 l0 e0, .slice P1 l1 e1, .slice P2 l2 e2], .int .u8 a, .int .i64 n] w fun e w' => e = .returned (.bool true) ∧ Below w.heap.size w w' := by
  have HK := Lib.hid hk
  clear hk
  go_enter Tryz.func5, Tryz.ntmps5
  obtain ⟨bk, b9, -, HB⟩ := two_new' w (.cells #[.int .i64 k.room, .int .i64 k.per, .slice A1 k.ls.length c1, .slice A2 k.ds.length c2, .slice A3 k.ws.length c3] 26) (.cells #[.int .i64 m, .slice P0 l0 e0, .slice P1 l1 e1, .slice P2 l2 e2] 54)
  have cbk0 := Joins.cell_of_block bk 0
  have cbk1 := Joins.cell_of_block bk 1
  have cbk2 := Joins.cell_of_block bk 2
  have cbk3 := Joins.cell_of_block bk 3
  have cbk4 := Joins.cell_of_block bk 4
  have zbk := size_of_block bk
  go_wp2_with fail
  generalize ((w.alloc (.cells #[.int .i64 k.room, .int .i64 k.per, .slice A1 k.ls.length c1, .slice A2 k.ds.length c2, .slice A3 k.ws.length c3] 26)).alloc (.cells #[.int .i64 m, .slice P0 l0 e0, .slice P1 l1 e1, .slice P2 l2 e2] 54)) = w1 at bk b9 HB cbk0 cbk1 cbk2 cbk3 cbk4 zbk ⊢
  have hB := HB
  clear HB
  refine (lfew_c k.room k.per A1 A2 A3 k.ls.length c1 k.ds.length c2 k.ws.length c3 _).mono ?_
  rintro e w2 ⟨rfl, hF⟩
  clear cbk0 cbk1 cbk2 cbk3 cbk4 zbk
  replace bk := (hF.block _ (size_of_block bk)).trans bk
  replace b9 := (hF.block _ (size_of_block b9)).trans b9
  replace hB := below_then hB hF
  clear hF
  rw [hf]
  have cb90 := Joins.cell_of_block b9 0
  have cb91 := Joins.cell_of_block b9 1
  have cb92 := Joins.cell_of_block b9 2
  have cb93 := Joins.cell_of_block b9 3
  have zb9 := size_of_block b9
  go_wp2_with fail
  all_goals (try (exfalso; omega))
  refine (sanity_c _).mono ?_
  rintro e w3 ⟨rfl, hF⟩
  clear cb90 cb91 cb92 cb93 zb9
  replace bk := (hF.block _ (size_of_block bk)).trans bk
  replace b9 := (hF.block _ (size_of_block b9)).trans b9
  replace hB := below_then hB hF
  clear hF
  go_wp2_with fail
  go_ret
  exact ⟨rfl, hB⟩
set_option maxRecDepth 100000 in
set_option maxHeartbeats 8000000 in
theorem SAb_long2 (k : Kl) (A1 A2 A3 : Option Addr) (c1 c2 c3 : Nat) (fr tu m : Int) (P0 : Option Addr) (l0 e0 : Nat) (P1 : Option Addr) (l1 e1 : Nat) (P2 : Option Addr) (l2 e2 : Nat) (a : Nat) (n : Int) (w : World) (hk : Kiln w (.agg #[.int .i64 k.room, .int .i64 k.per, .slice A1 k.ls.length c1, .slice A2 k.ds.length c2, .slice A3 k.ws.length c3]) k) (hf : fewB3 k.ls.length k.ds.length k.ws.length = true) (g0 : l0 ≤ 250) (g1 : l1 ≤ 60) (g2 : 60 < l2) : Calls Tryz.prog 5 #[.agg #[.int .i64 k.room, .int .i64 k.per, .slice A1 k.ls.length c1, .slice A2 k.ds.length c2, .slice A3 k.ws.length c3], .int .i64 fr, .int .i64 tu, .agg #[.int .i64 m, .slice P0 l0 e0, .slice P1 l1 e1, .slice P2 l2 e2], .int .u8 a, .int .i64 n] w fun e w' => e = .returned (.bool true) ∧ Below w.heap.size w w' := by
  have HK := Lib.hid hk
  clear hk
  go_enter Tryz.func5, Tryz.ntmps5
  obtain ⟨bk, b9, -, HB⟩ := two_new' w (.cells #[.int .i64 k.room, .int .i64 k.per, .slice A1 k.ls.length c1, .slice A2 k.ds.length c2, .slice A3 k.ws.length c3] 26) (.cells #[.int .i64 m, .slice P0 l0 e0, .slice P1 l1 e1, .slice P2 l2 e2] 54)
  have cbk0 := Joins.cell_of_block bk 0
  have cbk1 := Joins.cell_of_block bk 1
  have cbk2 := Joins.cell_of_block bk 2
  have cbk3 := Joins.cell_of_block bk 3
  have cbk4 := Joins.cell_of_block bk 4
  have zbk := size_of_block bk
  go_wp2_with fail
  generalize ((w.alloc (.cells #[.int .i64 k.room, .int .i64 k.per, .slice A1 k.ls.length c1, .slice A2 k.ds.length c2, .slice A3 k.ws.length c3] 26)).alloc (.cells #[.int .i64 m, .slice P0 l0 e0, .slice P1 l1 e1, .slice P2 l2 e2] 54)) = w1 at bk b9 HB cbk0 cbk1 cbk2 cbk3 cbk4 zbk ⊢
  have hB := HB
  clear HB
  refine (lfew_c k.room k.per A1 A2 A3 k.ls.length c1 k.ds.length c2 k.ws.length c3 _).mono ?_
  rintro e w2 ⟨rfl, hF⟩
  clear cbk0 cbk1 cbk2 cbk3 cbk4 zbk
  replace bk := (hF.block _ (size_of_block bk)).trans bk
  replace b9 := (hF.block _ (size_of_block b9)).trans b9
  replace hB := below_then hB hF
  clear hF
  rw [hf]
  have cb90 := Joins.cell_of_block b9 0
  have cb91 := Joins.cell_of_block b9 1
  have cb92 := Joins.cell_of_block b9 2
  have cb93 := Joins.cell_of_block b9 3
  have zb9 := size_of_block b9
  go_wp2_with fail
  all_goals (try (exfalso; omega))
  refine (sanity_c _).mono ?_
  rintro e w3 ⟨rfl, hF⟩
  clear cb90 cb91 cb92 cb93 zb9
  replace bk := (hF.block _ (size_of_block bk)).trans bk
  replace b9 := (hF.block _ (size_of_block b9)).trans b9
  replace hB := below_then hB hF
  clear hF
  go_wp2_with fail
  go_ret
  exact ⟨rfl, hB⟩
set_option maxRecDepth 100000 in
set_option maxHeartbeats 8000000 in
theorem SAb_ok (k : Kl) (A1 A2 A3 : Option Addr) (c1 c2 c3 : Nat) (fr tu m : Int) (P0 : Option Addr) (l0 e0 : Nat) (P1 : Option Addr) (l1 e1 : Nat) (P2 : Option Addr) (l2 e2 : Nat) (a : Nat) (n : Int) (w : World) (hk : Kiln w (.agg #[.int .i64 k.room, .int .i64 k.per, .slice A1 k.ls.length c1, .slice A2 k.ds.length c2, .slice A3 k.ws.length c3]) k) (hf : fewB3 k.ls.length k.ds.length k.ws.length = true) (ha : a ≤ 255) (p tl td : List Int) (e1' : p.length = l0) (e2' : tl.length = l1) (e3' : td.length = l2) (g0 : l0 ≤ 250) (g1 : l1 ≤ 60) (g2 : l2 ≤ 60) (hp : Ints w w.heap.size (.slice P0 l0 e0) p) (ht : Truth w (.agg #[.slice P1 l1 e1, .slice P2 l2 e2]) tl td) (h0 : (mostE k fr tu).2 = 0) : Calls Tryz.prog 5 #[.agg #[.int .i64 k.room, .int .i64 k.per, .slice A1 k.ls.length c1, .slice A2 k.ds.length c2, .slice A3 k.ws.length c3], .int .i64 fr, .int .i64 tu, .agg #[.int .i64 m, .slice P0 l0 e0, .slice P1 l1 e1, .slice P2 l2 e2], .int .u8 a, .int .i64 n] w fun e w' => e = .returned (.bool true) ∧ Below w.heap.size w w' := by
  subst e1' e2' e3'
  have yX := fun W h => Above_ok k (.agg #[.int .i64 k.room, .int .i64 k.per, .slice A1 k.ls.length c1, .slice A2 k.ds.length c2, .slice A3 k.ws.length c3]) fr tu W h h0
  have yM := fun W h => rMost_c k (.agg #[.int .i64 k.room, .int .i64 k.per, .slice A1 k.ls.length c1, .slice A2 k.ds.length c2, .slice A3 k.ws.length c3]) fr tu W h
  have yC := fun W h hp ht => CheckAbove_d k (.agg #[.int .i64 k.room, .int .i64 k.per, .slice A1 k.ls.length c1, .slice A2 k.ds.length c2, .slice A3 k.ws.length c3]) P0 P1 P2 p.length e0 tl.length e1 td.length e2 fr tu m p tl td W h hp ht
  have yD := fun W h hp ht => rCheckAbove_c k (.agg #[.int .i64 k.room, .int .i64 k.per, .slice A1 k.ls.length c1, .slice A2 k.ds.length c2, .slice A3 k.ws.length c3]) fr tu m P0 P1 P2 e0 e1 e2 p tl td W h hp ht
  obtain ⟨AC, hAC⟩ : ∃ x, x = aboveC k fr tu m p tl td := ⟨_, rfl⟩
  rw [← hAC] at yC yD
  clear hAC
  have hcc : (AC == AC) = true := by simp
  rw [h0] at yM
  obtain ⟨MM, hMM⟩ : ∃ x, x = (mostE k fr tu).1 := ⟨_, rfl⟩
  rw [← hMM] at yX yM
  clear hMM h0
  have hmm : (MM != MM) = false := by simp
  have HX := Lib.hid yX
  clear yX
  have HM := Lib.hid yM
  clear yM
  have HC := Lib.hid yC
  clear yC
  have HD := Lib.hid yD
  clear yD
  have HP := Lib.hid hp
  have HT := Lib.hid ht
  clear hp ht
  have HK := Lib.hid hk
  clear hk
  go_enter Tryz.func5, Tryz.ntmps5
  obtain ⟨bk, b9, -, HB⟩ := two_new' w (.cells #[.int .i64 k.room, .int .i64 k.per, .slice A1 k.ls.length c1, .slice A2 k.ds.length c2, .slice A3 k.ws.length c3] 26) (.cells #[.int .i64 m, .slice P0 p.length e0, .slice P1 tl.length e1, .slice P2 td.length e2] 54)
  have cbk0 := Joins.cell_of_block bk 0
  have cbk1 := Joins.cell_of_block bk 1
  have cbk2 := Joins.cell_of_block bk 2
  have cbk3 := Joins.cell_of_block bk 3
  have cbk4 := Joins.cell_of_block bk 4
  have zbk := size_of_block bk
  go_wp2_with fail
  generalize ((w.alloc (.cells #[.int .i64 k.room, .int .i64 k.per, .slice A1 k.ls.length c1, .slice A2 k.ds.length c2, .slice A3 k.ws.length c3] 26)).alloc (.cells #[.int .i64 m, .slice P0 p.length e0, .slice P1 tl.length e1, .slice P2 td.length e2] 54)) = w1 at bk b9 HB cbk0 cbk1 cbk2 cbk3 cbk4 zbk ⊢
  have hB := HB
  clear HB
  refine (lfew_c k.room k.per A1 A2 A3 k.ls.length c1 k.ds.length c2 k.ws.length c3 _).mono ?_
  rintro e w2 ⟨rfl, hF⟩
  clear cbk0 cbk1 cbk2 cbk3 cbk4 zbk
  replace bk := (hF.block _ (size_of_block bk)).trans bk
  replace b9 := (hF.block _ (size_of_block b9)).trans b9
  replace hB := below_then hB hF
  clear hF
  rw [hf]
  have cb90 := Joins.cell_of_block b9 0
  have cb91 := Joins.cell_of_block b9 1
  have cb92 := Joins.cell_of_block b9 2
  have cb93 := Joins.cell_of_block b9 3
  have zb9 := size_of_block b9
  have cbk0 := Joins.cell_of_block bk 0
  have cbk1 := Joins.cell_of_block bk 1
  have cbk2 := Joins.cell_of_block bk 2
  have cbk3 := Joins.cell_of_block bk 3
  have cbk4 := Joins.cell_of_block bk 4
  have zbk := size_of_block bk
  go_wp2_with fail
  all_goals (try (exfalso; omega))
  refine (HX.out w2 (HK.out.later hB)).mono ?_
  rintro e w3 ⟨F0, f0, F1, f1, F2, f2, pp, xl, xd, rfl, ⟨hO1, hO2, hO3, hA0, hl1, hl2, hl3⟩, hF⟩
  clear cb90 cb91 cb92 cb93 zb9 cbk0 cbk1 cbk2 cbk3 cbk4 zbk
  replace bk := (hF.block _ (size_of_block bk)).trans bk
  replace b9 := (hF.block _ (size_of_block b9)).trans b9
  replace hB := below_then hB hF
  clear hF
  have HA0 := Lib.hid hA0
  clear hA0
  have b13 := heap_alloc_new w3 (.cells #[.int .i64 MM, .slice F0 pp.length f0, .slice F1 xl.length f1, .slice F2 xd.length f2] 54)
  have HB := below_alloc w3 (.cells #[.int .i64 MM, .slice F0 pp.length f0, .slice F1 xl.length f1, .slice F2 xd.length f2] 54)
  have cbk0 := Joins.cell_of_block ((HB.block _ (size_of_block bk)).trans bk) 0
  have cbk1 := Joins.cell_of_block ((HB.block _ (size_of_block bk)).trans bk) 1
  have cbk2 := Joins.cell_of_block ((HB.block _ (size_of_block bk)).trans bk) 2
  have cbk3 := Joins.cell_of_block ((HB.block _ (size_of_block bk)).trans bk) 3
  have cbk4 := Joins.cell_of_block ((HB.block _ (size_of_block bk)).trans bk) 4
  have zbk := size_of_block bk
  go_wp2_with fail
  generalize (w3.alloc (.cells #[.int .i64 MM, .slice F0 pp.length f0, .slice F1 xl.length f1, .slice F2 xd.length f2] 54)) = w4 at b13 HB cbk0 cbk1 cbk2 cbk3 cbk4 ⊢
  replace bk := (HB.block _ (size_of_block bk)).trans bk
  replace b9 := (HB.block _ (size_of_block b9)).trans b9
  replace hO1 := own_later hO1 HB
  replace hO2 := own_later hO2 HB
  replace hO3 := own_later hO3 HB
  replace hB := below_then hB HB
  clear HB
  refine (HM.out w4 (HK.out.later hB)).mono ?_
  rintro e w5 ⟨rfl, hF⟩
  clear cbk0 cbk1 cbk2 cbk3 cbk4 zbk
  replace bk := (hF.block _ (size_of_block bk)).trans bk
  replace b9 := (hF.block _ (size_of_block b9)).trans b9
  replace b13 := (hF.block _ (size_of_block b13)).trans b13
  replace hO1 := own_later hO1 hF
  replace hO2 := own_later hO2 hF
  replace hO3 := own_later hO3 hF
  replace hB := below_then hB hF
  clear hF
  have cb130 := Joins.cell_of_block b13 0
  have cb131 := Joins.cell_of_block b13 1
  have cb132 := Joins.cell_of_block b13 2
  have cb133 := Joins.cell_of_block b13 3
  have zb13 := size_of_block b13
  have cbk0 := Joins.cell_of_block bk 0
  have cbk1 := Joins.cell_of_block bk 1
  have cbk2 := Joins.cell_of_block bk 2
  have cbk3 := Joins.cell_of_block bk 3
  have cbk4 := Joins.cell_of_block bk 4
  have zbk := size_of_block bk
  go_wp2_with fail
  refine (rCheckAbove_c k (.agg #[.int .i64 k.room, .int .i64 k.per, .slice A1 k.ls.length c1, .slice A2 k.ds.length c2, .slice A3 k.ws.length c3]) fr tu MM F0 F1 F2 f0 f1 f2 pp xl xd w5 (HK.out.later hB) (Ints.of_own hO1 (by omega)) ⟨_, _, rfl, Ints.of_own hO2 (by omega), Ints.of_own hO3 (by omega)⟩).mono ?_
  rintro e w6 ⟨rfl, hF⟩
  clear cb130 cb131 cb132 cb133 zb13 cbk0 cbk1 cbk2 cbk3 cbk4 zbk
  replace bk := (hF.block _ (size_of_block bk)).trans bk
  replace b9 := (hF.block _ (size_of_block b9)).trans b9
  replace b13 := (hF.block _ (size_of_block b13)).trans b13
  replace hO1 := own_later hO1 hF
  replace hO2 := own_later hO2 hF
  replace hO3 := own_later hO3 hF
  replace hB := below_then hB hF
  clear hF
  rw [HA0.out]
  have cb130 := Joins.cell_of_block b13 0
  have cb131 := Joins.cell_of_block b13 1
  have cb132 := Joins.cell_of_block b13 2
  have cb133 := Joins.cell_of_block b13 3
  have zb13 := size_of_block b13
  go_wp2_with fail
  refine (bent_c MM F0 F1 F2 f0 f1 f2 pp xl xd a n w6 (Ints.of_own hO1 (by omega)) ⟨_, _, rfl, Ints.of_own hO2 (by omega), Ints.of_own hO3 (by omega)⟩ (by omega) (by omega) (by omega) ha).mono ?_
  rintro e w7 ⟨m9, G0, G1, G2, x0, x1, x2, q, ql, qd, rfl, ⟨hq1, hq2⟩, hF⟩
  clear cb130 cb131 cb132 cb133 zb13
  replace bk := (hF.block _ (size_of_block bk)).trans bk
  replace b9 := (hF.block _ (size_of_block b9)).trans b9
  replace b13 := (hF.block _ (size_of_block b13)).trans b13
  replace hO1 := own_later hO1 hF
  replace hO2 := own_later hO2 hF
  replace hO3 := own_later hO3 hF
  replace hB := below_then hB hF
  clear hF
  have yU := fun W h hp ht => CheckAbove_d k (.agg #[.int .i64 k.room, .int .i64 k.per, .slice A1 k.ls.length c1, .slice A2 k.ds.length c2, .slice A3 k.ws.length c3]) G0 G1 G2 q.length x0 ql.length x1 qd.length x2 fr tu m9 q ql qd W h hp ht
  have yV := fun W h hp ht => rCheckAbove_c k (.agg #[.int .i64 k.room, .int .i64 k.per, .slice A1 k.ls.length c1, .slice A2 k.ds.length c2, .slice A3 k.ws.length c3]) fr tu m9 G0 G1 G2 x0 x1 x2 q ql qd W h hp ht
  obtain ⟨BC, hBC⟩ : ∃ x, x = aboveC k fr tu m9 q ql qd := ⟨_, rfl⟩
  rw [← hBC] at yU yV
  clear hBC
  have HU := Lib.hid yU
  have HV := Lib.hid yV
  clear yU yV
  have hbb : (BC == BC) = true := by simp
  have b17 := heap_alloc_new w7 (.cells #[.int .i64 m9, .slice G0 q.length x0, .slice G1 ql.length x1, .slice G2 qd.length x2] 54)
  have HB := below_alloc w7 (.cells #[.int .i64 m9, .slice G0 q.length x0, .slice G1 ql.length x1, .slice G2 qd.length x2] 54)
  go_wp2_with fail
  generalize (w7.alloc (.cells #[.int .i64 m9, .slice G0 q.length x0, .slice G1 ql.length x1, .slice G2 qd.length x2] 54)) = w8 at b17 HB  ⊢
  replace bk := (HB.block _ (size_of_block bk)).trans bk
  replace b9 := (HB.block _ (size_of_block b9)).trans b9
  replace b13 := (HB.block _ (size_of_block b13)).trans b13
  replace hq1 := hq1.later HB
  replace hq2 := hq2.later HB
  replace hO1 := own_later hO1 HB
  replace hO2 := own_later hO2 HB
  replace hO3 := own_later hO3 HB
  replace hB := below_then hB HB
  clear HB
  go_wp2_with fail
  refine wp_region_planW [.s 0, .f [1, 2, 3, 4, 5, 7, 8, 9, 10], .s 6, .s 11, .f [12, 13, 14, 15, 16, 17, 18, 20, 21, 22, 23], .s 19, .s 24, .f [25, 26], .s 27] [] (by kernel_rfl) (by kernel_rfl) (by intro c a d v w h; cases d <;> exact h) ?_
  intro p9_0 hu
  replace bk := (hu.block _ (size_of_block bk)).trans bk
  replace b9 := (hu.block _ (size_of_block b9)).trans b9
  replace b13 := (hu.block _ (size_of_block b13)).trans b13
  replace b17 := (hu.block _ (size_of_block b17)).trans b17
  replace hq1 := hq1.later hu
  replace hq2 := hq2.later hu
  replace hO1 := own_later hO1 hu
  replace hO2 := own_later hO2 hu
  replace hO3 := own_later hO3 hu
  replace hB := below_then hB hu
  clear hu
  refine wpPlanW_call rfl (by kernel_rfl) fun K hK => ?_
  go_simp
  refine (sanity_c p9_0).mono ?_
  rintro e X ⟨rfl, hxx⟩
  refine hK _ _ hxx fun p9_1 hu => ?_
  clear hK K
  have hv := below_then hxx hu
  replace bk := (hv.block _ (size_of_block bk)).trans bk
  replace b9 := (hv.block _ (size_of_block b9)).trans b9
  replace b13 := (hv.block _ (size_of_block b13)).trans b13
  replace b17 := (hv.block _ (size_of_block b17)).trans b17
  replace hq1 := hq1.later hv
  replace hq2 := hq2.later hv
  replace hO1 := own_later hO1 hv
  replace hO2 := own_later hO2 hv
  replace hO3 := own_later hO3 hv
  replace hB := below_then hB hv
  clear hxx hu hv
  refine wpPlanW_r ?_
  simp only [pick, List.filterMap_cons, List.filterMap_nil, List.getElem?_toArray, List.getElem?_cons_succ, List.getElem?_cons_zero]
  have cbk0 := Joins.cell_of_block bk 0
  have cbk1 := Joins.cell_of_block bk 1
  have cbk2 := Joins.cell_of_block bk 2
  have cbk3 := Joins.cell_of_block bk 3
  have cbk4 := Joins.cell_of_block bk 4
  have zbk := size_of_block bk
  have cb90 := Joins.cell_of_block b9 0
  have cb91 := Joins.cell_of_block b9 1
  have cb92 := Joins.cell_of_block b9 2
  have cb93 := Joins.cell_of_block b9 3
  have zb9 := size_of_block b9
  have hcg : ∀ (g : Gr p9_1) b o, b < p9_1.heap.size → g.val.cell? ⟨b, o, none⟩ = p9_1.cell? ⟨b, o, none⟩ := fun g b o h => (bcell g.b).1 b o h
  refine WR.step (by kernel_rfl) (fun K hK => ?_); go_simp; refine hK _ ?_; clear hK K
  refine WR.step (by kernel_rfl) (fun K hK => ?_); go_simp; refine hK _ ?_; clear hK K
  refine WR.step (by kernel_rfl) (fun K hK => ?_); go_simp; refine hK _ ?_; clear hK K
  refine WR.step (by kernel_rfl) (fun K hK => ?_); go_simp; refine hK _ ?_; clear hK K
  refine WR.step (by kernel_rfl) (fun K hK => ?_); go_simp; refine hK _ ?_; clear hK K
  refine WR.step (by kernel_rfl) (fun K hK => ?_); go_simp; refine hK _ ?_; clear hK K
  refine WR.step (by kernel_rfl) (fun K hK => ?_); go_simp; refine hK _ ?_; clear hK K
  refine WR.step (by kernel_rfl) (fun K hK => ?_); go_simp; refine hK _ ?_; clear hK K
  refine WR.step (by kernel_rfl) (fun K hK => ?_); go_simp; refine hK _ ?_; clear hK K
  go_simp
  refine WR.nil fun p9_2 hb => ?_
  clear hcg cbk0 cbk1 cbk2 cbk3 cbk4 zbk cb90 cb91 cb92 cb93 zb9
  replace bk := (hb.block _ (size_of_block bk)).trans bk
  replace b9 := (hb.block _ (size_of_block b9)).trans b9
  replace b13 := (hb.block _ (size_of_block b13)).trans b13
  replace b17 := (hb.block _ (size_of_block b17)).trans b17
  replace hq1 := hq1.later hb
  replace hq2 := hq2.later hb
  replace hO1 := own_later hO1 hb
  replace hO2 := own_later hO2 hb
  replace hO3 := own_later hO3 hb
  replace hB := below_then hB hb
  clear hb
  refine wpPlanW_call rfl (by kernel_rfl) fun K hK => ?_
  go_simp
  refine (HC.out p9_2 (HK.out.later hB) (HP.out.later hB) (HT.out.later hB)).mono ?_
  rintro e X ⟨rfl, hxx⟩
  refine hK _ _ hxx fun p9_3 hu => ?_
  clear hK K
  have hv := below_then hxx hu
  replace bk := (hv.block _ (size_of_block bk)).trans bk
  replace b9 := (hv.block _ (size_of_block b9)).trans b9
  replace b13 := (hv.block _ (size_of_block b13)).trans b13
  replace b17 := (hv.block _ (size_of_block b17)).trans b17
  replace hq1 := hq1.later hv
  replace hq2 := hq2.later hv
  replace hO1 := own_later hO1 hv
  replace hO2 := own_later hO2 hv
  replace hO3 := own_later hO3 hv
  replace hB := below_then hB hv
  clear hxx hu hv
  refine wpPlanW_call rfl (by kernel_rfl) fun K hK => ?_
  go_simp
  refine (HD.out p9_3 (HK.out.later hB) (HP.out.later hB) (HT.out.later hB)).mono ?_
  rintro e X ⟨rfl, hxx⟩
  refine hK _ _ hxx fun p9_4 hu => ?_
  clear hK K
  have hv := below_then hxx hu
  replace bk := (hv.block _ (size_of_block bk)).trans bk
  replace b9 := (hv.block _ (size_of_block b9)).trans b9
  replace b13 := (hv.block _ (size_of_block b13)).trans b13
  replace b17 := (hv.block _ (size_of_block b17)).trans b17
  replace hq1 := hq1.later hv
  replace hq2 := hq2.later hv
  replace hO1 := own_later hO1 hv
  replace hO2 := own_later hO2 hv
  replace hO3 := own_later hO3 hv
  replace hB := below_then hB hv
  clear hxx hu hv
  refine wpPlanW_r ?_
  simp only [pick, List.filterMap_cons, List.filterMap_nil, List.getElem?_toArray, List.getElem?_cons_succ, List.getElem?_cons_zero]
  have cbk0 := Joins.cell_of_block bk 0
  have cbk1 := Joins.cell_of_block bk 1
  have cbk2 := Joins.cell_of_block bk 2
  have cbk3 := Joins.cell_of_block bk 3
  have cbk4 := Joins.cell_of_block bk 4
  have zbk := size_of_block bk
  have cb170 := Joins.cell_of_block b17 0
  have cb171 := Joins.cell_of_block b17 1
  have cb172 := Joins.cell_of_block b17 2
  have cb173 := Joins.cell_of_block b17 3
  have zb17 := size_of_block b17
  have hcg : ∀ (g : Gr p9_4) b o, b < p9_4.heap.size → g.val.cell? ⟨b, o, none⟩ = p9_4.cell? ⟨b, o, none⟩ := fun g b o h => (bcell g.b).1 b o h
  refine WR.val (.bool true) (by kernel_rfl) (by intro g; simp [execOp, go_sem]) ?_
  refine WR.val (.bool true) (by kernel_rfl) (by intro g; first | (simp [execOp, go_sem]; done) | kernel_rfl) ?_
  refine WR.val (.bool true) (by kernel_rfl) (by intro g; first | (simp [execOp, go_sem]; done) | kernel_rfl) ?_
  refine WR.step (by kernel_rfl) (fun K hK => ?_); go_simp; refine hK _ ?_; clear hK K
  refine WR.step (by kernel_rfl) (fun K hK => ?_); go_simp; refine hK _ ?_; clear hK K
  refine WR.step (by kernel_rfl) (fun K hK => ?_); go_simp; refine hK _ ?_; clear hK K
  refine WR.step (by kernel_rfl) (fun K hK => ?_); go_simp; refine hK _ ?_; clear hK K
  refine WR.step (by kernel_rfl) (fun K hK => ?_); go_simp; refine hK _ ?_; clear hK K
  refine WR.step (by kernel_rfl) (fun K hK => ?_); go_simp; refine hK _ ?_; clear hK K
  refine WR.step (by kernel_rfl) (fun K hK => ?_); go_simp; refine hK _ ?_; clear hK K
  refine WR.step (by kernel_rfl) (fun K hK => ?_); go_simp; refine hK _ ?_; clear hK K
  go_simp
  refine WR.nil fun p9_5 hb => ?_
  clear hcg cbk0 cbk1 cbk2 cbk3 cbk4 zbk cb170 cb171 cb172 cb173 zb17
  replace bk := (hb.block _ (size_of_block bk)).trans bk
  replace b9 := (hb.block _ (size_of_block b9)).trans b9
  replace b13 := (hb.block _ (size_of_block b13)).trans b13
  replace b17 := (hb.block _ (size_of_block b17)).trans b17
  replace hq1 := hq1.later hb
  replace hq2 := hq2.later hb
  replace hO1 := own_later hO1 hb
  replace hO2 := own_later hO2 hb
  replace hO3 := own_later hO3 hb
  replace hB := below_then hB hb
  clear hb
  refine wpPlanW_call rfl (by kernel_rfl) fun K hK => ?_
  go_simp
  refine (HU.out p9_5 (HK.out.later hB) hq1 hq2).mono ?_
  rintro e X ⟨rfl, hxx⟩
  refine hK _ _ hxx fun p9_6 hu => ?_
  clear hK K
  have hv := below_then hxx hu
  replace bk := (hv.block _ (size_of_block bk)).trans bk
  replace b9 := (hv.block _ (size_of_block b9)).trans b9
  replace b13 := (hv.block _ (size_of_block b13)).trans b13
  replace b17 := (hv.block _ (size_of_block b17)).trans b17
  replace hq1 := hq1.later hv
  replace hq2 := hq2.later hv
  replace hO1 := own_later hO1 hv
  replace hO2 := own_later hO2 hv
  replace hO3 := own_later hO3 hv
  replace hB := below_then hB hv
  clear hxx hu hv
  refine wpPlanW_call rfl (by kernel_rfl) fun K hK => ?_
  go_simp
  refine (HV.out p9_6 (HK.out.later hB) hq1 hq2).mono ?_
  rintro e X ⟨rfl, hxx⟩
  refine hK _ _ hxx fun p9_7 hu => ?_
  clear hK K
  have hv := below_then hxx hu
  replace bk := (hv.block _ (size_of_block bk)).trans bk
  replace b9 := (hv.block _ (size_of_block b9)).trans b9
  replace b13 := (hv.block _ (size_of_block b13)).trans b13
  replace b17 := (hv.block _ (size_of_block b17)).trans b17
  replace hq1 := hq1.later hv
  replace hq2 := hq2.later hv
  replace hO1 := own_later hO1 hv
  replace hO2 := own_later hO2 hv
  replace hO3 := own_later hO3 hv
  replace hB := below_then hB hv
  clear hxx hu hv
  refine wpPlanW_r ?_
  simp only [pick, List.filterMap_cons, List.filterMap_nil, List.getElem?_toArray, List.getElem?_cons_succ, List.getElem?_cons_zero]
  have hcg : ∀ (g : Gr p9_7) b o, b < p9_7.heap.size → g.val.cell? ⟨b, o, none⟩ = p9_7.cell? ⟨b, o, none⟩ := fun g b o h => (bcell g.b).1 b o h
  refine WR.val (.bool true) (by kernel_rfl) (by intro g; simp [execOp, go_sem]) ?_
  refine WR.val (.bool true) (by kernel_rfl) (by intro g; first | (simp [execOp, go_sem]; done) | kernel_rfl) ?_
  go_simp
  refine WR.nil fun p9_8 hb => ?_
  clear hcg 
  replace bk := (hb.block _ (size_of_block bk)).trans bk
  replace b9 := (hb.block _ (size_of_block b9)).trans b9
  replace b13 := (hb.block _ (size_of_block b13)).trans b13
  replace b17 := (hb.block _ (size_of_block b17)).trans b17
  replace hq1 := hq1.later hb
  replace hq2 := hq2.later hb
  replace hO1 := own_later hO1 hb
  replace hO2 := own_later hO2 hb
  replace hO3 := own_later hO3 hb
  replace hB := below_then hB hb
  clear hb
  refine wpPlanW_call rfl (by kernel_rfl) fun K hK => ?_
  go_simp
  refine hK _ _ (Below.refl _ _) fun p9_9 hu => ?_
  clear hK K
  replace bk := (hu.block _ (size_of_block bk)).trans bk
  replace b9 := (hu.block _ (size_of_block b9)).trans b9
  replace b13 := (hu.block _ (size_of_block b13)).trans b13
  replace b17 := (hu.block _ (size_of_block b17)).trans b17
  replace hq1 := hq1.later hu
  replace hq2 := hq2.later hu
  replace hO1 := own_later hO1 hu
  replace hO2 := own_later hO2 hu
  replace hO3 := own_later hO3 hu
  replace hB := below_then hB hu
  clear hu
  refine wpPlanW_nil ?_
  show wpList _ _ _ _ _ _
  skip
  go_wp2_with fail
  go_ret
  exact ⟨rfl, hB⟩
set_option maxRecDepth 100000 in
set_option maxHeartbeats 8000000 in
theorem SAb_err (k : Kl) (A1 A2 A3 : Option Addr) (c1 c2 c3 : Nat) (fr tu m : Int) (P0 : Option Addr) (l0 e0 : Nat) (P1 : Option Addr) (l1 e1 : Nat) (P2 : Option Addr) (l2 e2 : Nat) (a : Nat) (n : Int) (w : World) (hk : Kiln w (.agg #[.int .i64 k.room, .int .i64 k.per, .slice A1 k.ls.length c1, .slice A2 k.ds.length c2, .slice A3 k.ws.length c3]) k) (hf : fewB3 k.ls.length k.ds.length k.ws.length = true) (ha : a ≤ 255) (p tl td : List Int) (e1' : p.length = l0) (e2' : tl.length = l1) (e3' : td.length = l2) (g0 : l0 ≤ 250) (g1 : l1 ≤ 60) (g2 : l2 ≤ 60) (hp : Ints w w.heap.size (.slice P0 l0 e0) p) (ht : Truth w (.agg #[.slice P1 l1 e1, .slice P2 l2 e2]) tl td) (h0 : (mostE k fr tu).2 ≠ 0) : Calls Tryz.prog 5 #[.agg #[.int .i64 k.room, .int .i64 k.per, .slice A1 k.ls.length c1, .slice A2 k.ds.length c2, .slice A3 k.ws.length c3], .int .i64 fr, .int .i64 tu, .agg #[.int .i64 m, .slice P0 l0 e0, .slice P1 l1 e1, .slice P2 l2 e2], .int .u8 a, .int .i64 n] w fun e w' => e = .returned (.bool true) ∧ Below w.heap.size w w' := by
  subst e1' e2' e3'
  have yX := fun W h => Above_err k (.agg #[.int .i64 k.room, .int .i64 k.per, .slice A1 k.ls.length c1, .slice A2 k.ds.length c2, .slice A3 k.ws.length c3]) fr tu W h h0
  have yM := fun W h => rMost_c k (.agg #[.int .i64 k.room, .int .i64 k.per, .slice A1 k.ls.length c1, .slice A2 k.ds.length c2, .slice A3 k.ws.length c3]) fr tu W h
  have yC := fun W h hp ht => CheckAbove_d k (.agg #[.int .i64 k.room, .int .i64 k.per, .slice A1 k.ls.length c1, .slice A2 k.ds.length c2, .slice A3 k.ws.length c3]) P0 P1 P2 p.length e0 tl.length e1 td.length e2 fr tu m p tl td W h hp ht
  have yD := fun W h hp ht => rCheckAbove_c k (.agg #[.int .i64 k.room, .int .i64 k.per, .slice A1 k.ls.length c1, .slice A2 k.ds.length c2, .slice A3 k.ws.length c3]) fr tu m P0 P1 P2 e0 e1 e2 p tl td W h hp ht
  obtain ⟨AC, hAC⟩ : ∃ x, x = aboveC k fr tu m p tl td := ⟨_, rfl⟩
  rw [← hAC] at yC yD
  clear hAC
  have hcc : (AC == AC) = true := by simp
  rw [most_zero h0] at yM
  obtain ⟨EE, hEE⟩ : ∃ x, x = (mostE k fr tu).2 := ⟨_, rfl⟩
  rw [← hEE] at yX yM h0
  clear hEE
  have d0 : (EE == 0) = false := by simpa using h0
  have d1 : (EE != 0) = true := by simpa using h0
  have hee : (EE != EE) = false := by simp
  clear h0
  have HX := Lib.hid yX
  clear yX
  have HM := Lib.hid yM
  clear yM
  have HC := Lib.hid yC
  clear yC
  have HD := Lib.hid yD
  clear yD
  have HP := Lib.hid hp
  have HT := Lib.hid ht
  clear hp ht
  have HK := Lib.hid hk
  clear hk
  go_enter Tryz.func5, Tryz.ntmps5
  obtain ⟨bk, b9, -, HB⟩ := two_new' w (.cells #[.int .i64 k.room, .int .i64 k.per, .slice A1 k.ls.length c1, .slice A2 k.ds.length c2, .slice A3 k.ws.length c3] 26) (.cells #[.int .i64 m, .slice P0 p.length e0, .slice P1 tl.length e1, .slice P2 td.length e2] 54)
  have cbk0 := Joins.cell_of_block bk 0
  have cbk1 := Joins.cell_of_block bk 1
  have cbk2 := Joins.cell_of_block bk 2
  have cbk3 := Joins.cell_of_block bk 3
  have cbk4 := Joins.cell_of_block bk 4
  have zbk := size_of_block bk
  go_wp2_with fail
  generalize ((w.alloc (.cells #[.int .i64 k.room, .int .i64 k.per, .slice A1 k.ls.length c1, .slice A2 k.ds.length c2, .slice A3 k.ws.length c3] 26)).alloc (.cells #[.int .i64 m, .slice P0 p.length e0, .slice P1 tl.length e1, .slice P2 td.length e2] 54)) = w1 at bk b9 HB cbk0 cbk1 cbk2 cbk3 cbk4 zbk ⊢
  have hB := HB
  clear HB
  refine (lfew_c k.room k.per A1 A2 A3 k.ls.length c1 k.ds.length c2 k.ws.length c3 _).mono ?_
  rintro e w2 ⟨rfl, hF⟩
  clear cbk0 cbk1 cbk2 cbk3 cbk4 zbk
  replace bk := (hF.block _ (size_of_block bk)).trans bk
  replace b9 := (hF.block _ (size_of_block b9)).trans b9
  replace hB := below_then hB hF
  clear hF
  rw [hf]
  have cb90 := Joins.cell_of_block b9 0
  have cb91 := Joins.cell_of_block b9 1
  have cb92 := Joins.cell_of_block b9 2
  have cb93 := Joins.cell_of_block b9 3
  have zb9 := size_of_block b9
  have cbk0 := Joins.cell_of_block bk 0
  have cbk1 := Joins.cell_of_block bk 1
  have cbk2 := Joins.cell_of_block bk 2
  have cbk3 := Joins.cell_of_block bk 3
  have cbk4 := Joins.cell_of_block bk 4
  have zbk := size_of_block bk
  go_wp2_with fail
  all_goals (try (exfalso; omega))
  refine (HX.out w2 (HK.out.later hB)).mono ?_
  rintro e w3 ⟨F0, f0, F1, f1, F2, f2, rfl, hF⟩
  clear cb90 cb91 cb92 cb93 zb9 cbk0 cbk1 cbk2 cbk3 cbk4 zbk
  replace bk := (hF.block _ (size_of_block bk)).trans bk
  replace b9 := (hF.block _ (size_of_block b9)).trans b9
  replace hB := below_then hB hF
  clear hF
  have b13 := heap_alloc_new w3 (.cells #[.int .i64 0, .slice F0 0 f0, .slice F1 0 f1, .slice F2 0 f2] 54)
  have HB := below_alloc w3 (.cells #[.int .i64 0, .slice F0 0 f0, .slice F1 0 f1, .slice F2 0 f2] 54)
  have cbk0 := Joins.cell_of_block ((HB.block _ (size_of_block bk)).trans bk) 0
  have cbk1 := Joins.cell_of_block ((HB.block _ (size_of_block bk)).trans bk) 1
  have cbk2 := Joins.cell_of_block ((HB.block _ (size_of_block bk)).trans bk) 2
  have cbk3 := Joins.cell_of_block ((HB.block _ (size_of_block bk)).trans bk) 3
  have cbk4 := Joins.cell_of_block ((HB.block _ (size_of_block bk)).trans bk) 4
  have zbk := size_of_block bk
  go_wp2_with fail
  generalize (w3.alloc (.cells #[.int .i64 0, .slice F0 0 f0, .slice F1 0 f1, .slice F2 0 f2] 54)) = w4 at b13 HB cbk0 cbk1 cbk2 cbk3 cbk4 ⊢
  replace bk := (HB.block _ (size_of_block bk)).trans bk
  replace b9 := (HB.block _ (size_of_block b9)).trans b9
  replace hB := below_then hB HB
  clear HB
  refine (HM.out w4 (HK.out.later hB)).mono ?_
  rintro e w5 ⟨rfl, hF⟩
  clear cbk0 cbk1 cbk2 cbk3 cbk4 zbk
  replace bk := (hF.block _ (size_of_block bk)).trans bk
  replace b9 := (hF.block _ (size_of_block b9)).trans b9
  replace b13 := (hF.block _ (size_of_block b13)).trans b13
  replace hB := below_then hB hF
  clear hF
  have cb130 := Joins.cell_of_block b13 0
  have cb131 := Joins.cell_of_block b13 1
  have cb132 := Joins.cell_of_block b13 2
  have cb133 := Joins.cell_of_block b13 3
  have zb13 := size_of_block b13
  have cbk0 := Joins.cell_of_block bk 0
  have cbk1 := Joins.cell_of_block bk 1
  have cbk2 := Joins.cell_of_block bk 2
  have cbk3 := Joins.cell_of_block bk 3
  have cbk4 := Joins.cell_of_block bk 4
  have zbk := size_of_block bk
  go_wp2_with fail
  all_goals (try (exfalso; omega))
  refine (bent_c 0 F0 F1 F2 f0 f1 f2 [] [] [] a n w5 (ints_zero _ _ _ _) ⟨_, _, rfl, ints_zero _ _ _ _, ints_zero _ _ _ _⟩ (by simp) (by simp) (by simp) ha).mono ?_
  rintro e w6 ⟨m9, G0, G1, G2, x0, x1, x2, q, ql, qd, rfl, ⟨hq1, hq2⟩, hF⟩
  clear cb130 cb131 cb132 cb133 zb13 cbk0 cbk1 cbk2 cbk3 cbk4 zbk
  replace bk := (hF.block _ (size_of_block bk)).trans bk
  replace b9 := (hF.block _ (size_of_block b9)).trans b9
  replace b13 := (hF.block _ (size_of_block b13)).trans b13
  replace hB := below_then hB hF
  clear hF
  have yU := fun W h hp ht => CheckAbove_d k (.agg #[.int .i64 k.room, .int .i64 k.per, .slice A1 k.ls.length c1, .slice A2 k.ds.length c2, .slice A3 k.ws.length c3]) G0 G1 G2 q.length x0 ql.length x1 qd.length x2 fr tu m9 q ql qd W h hp ht
  have yV := fun W h hp ht => rCheckAbove_c k (.agg #[.int .i64 k.room, .int .i64 k.per, .slice A1 k.ls.length c1, .slice A2 k.ds.length c2, .slice A3 k.ws.length c3]) fr tu m9 G0 G1 G2 x0 x1 x2 q ql qd W h hp ht
  obtain ⟨BC, hBC⟩ : ∃ x, x = aboveC k fr tu m9 q ql qd := ⟨_, rfl⟩
  rw [← hBC] at yU yV
  clear hBC
  have HU := Lib.hid yU
  have HV := Lib.hid yV
  clear yU yV
  have hbb : (BC == BC) = true := by simp
  have b17 := heap_alloc_new w6 (.cells #[.int .i64 m9, .slice G0 q.length x0, .slice G1 ql.length x1, .slice G2 qd.length x2] 54)
  have HB := below_alloc w6 (.cells #[.int .i64 m9, .slice G0 q.length x0, .slice G1 ql.length x1, .slice G2 qd.length x2] 54)
  go_wp2_with fail
  generalize (w6.alloc (.cells #[.int .i64 m9, .slice G0 q.length x0, .slice G1 ql.length x1, .slice G2 qd.length x2] 54)) = w7 at b17 HB  ⊢
  replace bk := (HB.block _ (size_of_block bk)).trans bk
  replace b9 := (HB.block _ (size_of_block b9)).trans b9
  replace b13 := (HB.block _ (size_of_block b13)).trans b13
  replace hq1 := hq1.later HB
  replace hq2 := hq2.later HB
  replace hB := below_then hB HB
  clear HB
  go_wp2_with fail
  refine wp_region_planW [.s 0, .f [1, 2, 3, 4, 5, 7, 8, 9, 10], .s 6, .s 11, .f [12, 13, 14, 15, 16, 17, 18, 20, 21, 22, 23], .s 19, .s 24, .f [25, 26], .s 27] [] (by kernel_rfl) (by kernel_rfl) (by intro c a d v w h; cases d <;> exact h) ?_
  intro p8_0 hu
  replace bk := (hu.block _ (size_of_block bk)).trans bk
  replace b9 := (hu.block _ (size_of_block b9)).trans b9
  replace b13 := (hu.block _ (size_of_block b13)).trans b13
  replace b17 := (hu.block _ (size_of_block b17)).trans b17
  replace hq1 := hq1.later hu
  replace hq2 := hq2.later hu
  replace hB := below_then hB hu
  clear hu
  refine wpPlanW_call rfl (by kernel_rfl) fun K hK => ?_
  go_simp
  refine (sanity_c p8_0).mono ?_
  rintro e X ⟨rfl, hxx⟩
  refine hK _ _ hxx fun p8_1 hu => ?_
  clear hK K
  have hv := below_then hxx hu
  replace bk := (hv.block _ (size_of_block bk)).trans bk
  replace b9 := (hv.block _ (size_of_block b9)).trans b9
  replace b13 := (hv.block _ (size_of_block b13)).trans b13
  replace b17 := (hv.block _ (size_of_block b17)).trans b17
  replace hq1 := hq1.later hv
  replace hq2 := hq2.later hv
  replace hB := below_then hB hv
  clear hxx hu hv
  refine wpPlanW_r ?_
  simp only [pick, List.filterMap_cons, List.filterMap_nil, List.getElem?_toArray, List.getElem?_cons_succ, List.getElem?_cons_zero]
  have cbk0 := Joins.cell_of_block bk 0
  have cbk1 := Joins.cell_of_block bk 1
  have cbk2 := Joins.cell_of_block bk 2
  have cbk3 := Joins.cell_of_block bk 3
  have cbk4 := Joins.cell_of_block bk 4
  have zbk := size_of_block bk
  have cb90 := Joins.cell_of_block b9 0
  have cb91 := Joins.cell_of_block b9 1
  have cb92 := Joins.cell_of_block b9 2
  have cb93 := Joins.cell_of_block b9 3
  have zb9 := size_of_block b9
  have hcg : ∀ (g : Gr p8_1) b o, b < p8_1.heap.size → g.val.cell? ⟨b, o, none⟩ = p8_1.cell? ⟨b, o, none⟩ := fun g b o h => (bcell g.b).1 b o h
  refine WR.step (by kernel_rfl) (fun K hK => ?_); go_simp; refine hK _ ?_; clear hK K
  refine WR.step (by kernel_rfl) (fun K hK => ?_); go_simp; refine hK _ ?_; clear hK K
  refine WR.step (by kernel_rfl) (fun K hK => ?_); go_simp; refine hK _ ?_; clear hK K
  refine WR.step (by kernel_rfl) (fun K hK => ?_); go_simp; refine hK _ ?_; clear hK K
  refine WR.step (by kernel_rfl) (fun K hK => ?_); go_simp; refine hK _ ?_; clear hK K
  refine WR.step (by kernel_rfl) (fun K hK => ?_); go_simp; refine hK _ ?_; clear hK K
  refine WR.step (by kernel_rfl) (fun K hK => ?_); go_simp; refine hK _ ?_; clear hK K
  refine WR.step (by kernel_rfl) (fun K hK => ?_); go_simp; refine hK _ ?_; clear hK K
  refine WR.step (by kernel_rfl) (fun K hK => ?_); go_simp; refine hK _ ?_; clear hK K
  go_simp
  refine WR.nil fun p8_2 hb => ?_
  clear hcg cbk0 cbk1 cbk2 cbk3 cbk4 zbk cb90 cb91 cb92 cb93 zb9
  replace bk := (hb.block _ (size_of_block bk)).trans bk
  replace b9 := (hb.block _ (size_of_block b9)).trans b9
  replace b13 := (hb.block _ (size_of_block b13)).trans b13
  replace b17 := (hb.block _ (size_of_block b17)).trans b17
  replace hq1 := hq1.later hb
  replace hq2 := hq2.later hb
  replace hB := below_then hB hb
  clear hb
  refine wpPlanW_call rfl (by kernel_rfl) fun K hK => ?_
  go_simp
  refine (HC.out p8_2 (HK.out.later hB) (HP.out.later hB) (HT.out.later hB)).mono ?_
  rintro e X ⟨rfl, hxx⟩
  refine hK _ _ hxx fun p8_3 hu => ?_
  clear hK K
  have hv := below_then hxx hu
  replace bk := (hv.block _ (size_of_block bk)).trans bk
  replace b9 := (hv.block _ (size_of_block b9)).trans b9
  replace b13 := (hv.block _ (size_of_block b13)).trans b13
  replace b17 := (hv.block _ (size_of_block b17)).trans b17
  replace hq1 := hq1.later hv
  replace hq2 := hq2.later hv
  replace hB := below_then hB hv
  clear hxx hu hv
  refine wpPlanW_call rfl (by kernel_rfl) fun K hK => ?_
  go_simp
  refine (HD.out p8_3 (HK.out.later hB) (HP.out.later hB) (HT.out.later hB)).mono ?_
  rintro e X ⟨rfl, hxx⟩
  refine hK _ _ hxx fun p8_4 hu => ?_
  clear hK K
  have hv := below_then hxx hu
  replace bk := (hv.block _ (size_of_block bk)).trans bk
  replace b9 := (hv.block _ (size_of_block b9)).trans b9
  replace b13 := (hv.block _ (size_of_block b13)).trans b13
  replace b17 := (hv.block _ (size_of_block b17)).trans b17
  replace hq1 := hq1.later hv
  replace hq2 := hq2.later hv
  replace hB := below_then hB hv
  clear hxx hu hv
  refine wpPlanW_r ?_
  simp only [pick, List.filterMap_cons, List.filterMap_nil, List.getElem?_toArray, List.getElem?_cons_succ, List.getElem?_cons_zero]
  have cbk0 := Joins.cell_of_block bk 0
  have cbk1 := Joins.cell_of_block bk 1
  have cbk2 := Joins.cell_of_block bk 2
  have cbk3 := Joins.cell_of_block bk 3
  have cbk4 := Joins.cell_of_block bk 4
  have zbk := size_of_block bk
  have cb170 := Joins.cell_of_block b17 0
  have cb171 := Joins.cell_of_block b17 1
  have cb172 := Joins.cell_of_block b17 2
  have cb173 := Joins.cell_of_block b17 3
  have zb17 := size_of_block b17
  have hcg : ∀ (g : Gr p8_4) b o, b < p8_4.heap.size → g.val.cell? ⟨b, o, none⟩ = p8_4.cell? ⟨b, o, none⟩ := fun g b o h => (bcell g.b).1 b o h
  refine WR.val (.bool true) (by kernel_rfl) (by intro g; simp [execOp, go_sem]) ?_
  refine WR.val (.bool true) (by kernel_rfl) (by intro g; first | (simp [execOp, go_sem]; done) | kernel_rfl) ?_
  refine WR.val (.bool true) (by kernel_rfl) (by intro g; first | (simp [execOp, go_sem]; done) | kernel_rfl) ?_
  refine WR.step (by kernel_rfl) (fun K hK => ?_); go_simp; refine hK _ ?_; clear hK K
  refine WR.step (by kernel_rfl) (fun K hK => ?_); go_simp; refine hK _ ?_; clear hK K
  refine WR.step (by kernel_rfl) (fun K hK => ?_); go_simp; refine hK _ ?_; clear hK K
  refine WR.step (by kernel_rfl) (fun K hK => ?_); go_simp; refine hK _ ?_; clear hK K
  refine WR.step (by kernel_rfl) (fun K hK => ?_); go_simp; refine hK _ ?_; clear hK K
  refine WR.step (by kernel_rfl) (fun K hK => ?_); go_simp; refine hK _ ?_; clear hK K
  refine WR.step (by kernel_rfl) (fun K hK => ?_); go_simp; refine hK _ ?_; clear hK K
  refine WR.step (by kernel_rfl) (fun K hK => ?_); go_simp; refine hK _ ?_; clear hK K
  go_simp
  refine WR.nil fun p8_5 hb => ?_
  clear hcg cbk0 cbk1 cbk2 cbk3 cbk4 zbk cb170 cb171 cb172 cb173 zb17
  replace bk := (hb.block _ (size_of_block bk)).trans bk
  replace b9 := (hb.block _ (size_of_block b9)).trans b9
  replace b13 := (hb.block _ (size_of_block b13)).trans b13
  replace b17 := (hb.block _ (size_of_block b17)).trans b17
  replace hq1 := hq1.later hb
  replace hq2 := hq2.later hb
  replace hB := below_then hB hb
  clear hb
  refine wpPlanW_call rfl (by kernel_rfl) fun K hK => ?_
  go_simp
  refine (HU.out p8_5 (HK.out.later hB) hq1 hq2).mono ?_
  rintro e X ⟨rfl, hxx⟩
  refine hK _ _ hxx fun p8_6 hu => ?_
  clear hK K
  have hv := below_then hxx hu
  replace bk := (hv.block _ (size_of_block bk)).trans bk
  replace b9 := (hv.block _ (size_of_block b9)).trans b9
  replace b13 := (hv.block _ (size_of_block b13)).trans b13
  replace b17 := (hv.block _ (size_of_block b17)).trans b17
  replace hq1 := hq1.later hv
  replace hq2 := hq2.later hv
  replace hB := below_then hB hv
  clear hxx hu hv
  refine wpPlanW_call rfl (by kernel_rfl) fun K hK => ?_
  go_simp
  refine (HV.out p8_6 (HK.out.later hB) hq1 hq2).mono ?_
  rintro e X ⟨rfl, hxx⟩
  refine hK _ _ hxx fun p8_7 hu => ?_
  clear hK K
  have hv := below_then hxx hu
  replace bk := (hv.block _ (size_of_block bk)).trans bk
  replace b9 := (hv.block _ (size_of_block b9)).trans b9
  replace b13 := (hv.block _ (size_of_block b13)).trans b13
  replace b17 := (hv.block _ (size_of_block b17)).trans b17
  replace hq1 := hq1.later hv
  replace hq2 := hq2.later hv
  replace hB := below_then hB hv
  clear hxx hu hv
  refine wpPlanW_r ?_
  simp only [pick, List.filterMap_cons, List.filterMap_nil, List.getElem?_toArray, List.getElem?_cons_succ, List.getElem?_cons_zero]
  have hcg : ∀ (g : Gr p8_7) b o, b < p8_7.heap.size → g.val.cell? ⟨b, o, none⟩ = p8_7.cell? ⟨b, o, none⟩ := fun g b o h => (bcell g.b).1 b o h
  refine WR.val (.bool true) (by kernel_rfl) (by intro g; simp [execOp, go_sem]) ?_
  refine WR.val (.bool true) (by kernel_rfl) (by intro g; first | (simp [execOp, go_sem]; done) | kernel_rfl) ?_
  go_simp
  refine WR.nil fun p8_8 hb => ?_
  clear hcg 
  replace bk := (hb.block _ (size_of_block bk)).trans bk
  replace b9 := (hb.block _ (size_of_block b9)).trans b9
  replace b13 := (hb.block _ (size_of_block b13)).trans b13
  replace b17 := (hb.block _ (size_of_block b17)).trans b17
  replace hq1 := hq1.later hb
  replace hq2 := hq2.later hb
  replace hB := below_then hB hb
  clear hb
  refine wpPlanW_call rfl (by kernel_rfl) fun K hK => ?_
  go_simp
  refine hK _ _ (Below.refl _ _) fun p8_9 hu => ?_
  clear hK K
  replace bk := (hu.block _ (size_of_block bk)).trans bk
  replace b9 := (hu.block _ (size_of_block b9)).trans b9
  replace b13 := (hu.block _ (size_of_block b13)).trans b13
  replace b17 := (hu.block _ (size_of_block b17)).trans b17
  replace hq1 := hq1.later hu
  replace hq2 := hq2.later hu
  replace hB := below_then hB hu
  clear hu
  refine wpPlanW_nil ?_
  show wpList _ _ _ _ _ _
  skip
  go_wp2_with fail
  go_ret
  exact ⟨rfl, hB⟩
theorem ShaftAbove_w (rm pr : Int) (A1 : Option Addr) (n1 c1 : Nat) (A2 : Option Addr) (n2 c2 : Nat) (A3 : Option Addr) (n3 c3 : Nat) (fr tu m : Int) (P0 : Option Addr) (l0 e0 : Nat) (P1 : Option Addr) (l1 e1 : Nat) (P2 : Option Addr) (l2 e2 : Nat) (a : Nat) (n : Int) (w : World)
    (hk : (∃ k : Kl, k.room = rm ∧ k.per = pr ∧ k.ls.length = n1 ∧ k.ds.length = n2 ∧ k.ws.length = n3 ∧ Kiln w (.agg #[.int .i64 rm, .int .i64 pr, .slice A1 n1 c1, .slice A2 n2 c2, .slice A3 n3 c3]) k) ∨ 140737488355328 < n1 ∨ 140737488355328 < n2 ∨ 140737488355328 < n3)
    (hch : (∃ pp tl td : List Int, pp.length = l0 ∧ tl.length = l1 ∧ td.length = l2 ∧ Ints w w.heap.size (.slice P0 l0 e0) pp ∧ Truth w (.agg #[.slice P1 l1 e1, .slice P2 l2 e2]) tl td) ∨ 140737488355328 < l0 ∨ 140737488355328 < l1 ∨ 140737488355328 < l2) (ha : a ≤ 255) :
    Calls Tryz.prog 5 #[.agg #[.int .i64 rm, .int .i64 pr, .slice A1 n1 c1, .slice A2 n2 c2, .slice A3 n3 c3], .int .i64 fr, .int .i64 tu, .agg #[.int .i64 m, .slice P0 l0 e0, .slice P1 l1 e1, .slice P2 l2 e2], .int .u8 a, .int .i64 n] w fun e w' => e = .returned (.bool true) ∧ Below w.heap.size w w' := by
  rcases kiln_arg hk with h | ⟨hf, k, rfl, rfl, rfl, rfl, rfl, hk⟩
  · exact SAb_no rm pr A1 n1 c1 A2 n2 c2 A3 n3 c3 fr tu m P0 l0 e0 P1 l1 e1 P2 l2 e2 a n w h
  · by_cases g0 : l0 ≤ 250
    rotate_left
    · exact SAb_long0 k A1 A2 A3 c1 c2 c3 fr tu m P0 l0 e0 P1 l1 e1 P2 l2 e2 a n w hk hf (by omega)
    by_cases g1 : l1 ≤ 60
    rotate_left
    · exact SAb_long1 k A1 A2 A3 c1 c2 c3 fr tu m P0 l0 e0 P1 l1 e1 P2 l2 e2 a n w hk hf g0 (by omega)
    by_cases g2 : l2 ≤ 60
    rotate_left
    · exact SAb_long2 k A1 A2 A3 c1 c2 c3 fr tu m P0 l0 e0 P1 l1 e1 P2 l2 e2 a n w hk hf g0 g1 (by omega)
    obtain ⟨p, tl, td, h1, h2, h3, hp, ht⟩ : ∃ pp tl td : List Int, pp.length = l0 ∧ tl.length = l1 ∧ td.length = l2 ∧ Ints w w.heap.size (.slice P0 l0 e0) pp ∧ Truth w (.agg #[.slice P1 l1 e1, .slice P2 l2 e2]) tl td := by
      rcases hch with h | h
      · exact h
      · omega
    by_cases h0 : (mostE k fr tu).2 = 0
    · exact SAb_ok k A1 A2 A3 c1 c2 c3 fr tu m P0 l0 e0 P1 l1 e1 P2 l2 e2 a n w hk hf ha p tl td h1 h2 h3 g0 g1 g2 hp ht h0
    · exact SAb_err k A1 A2 A3 c1 c2 c3 fr tu m P0 l0 e0 P1 l1 e1 P2 l2 e2 a n w hk hf ha p tl td h1 h2 h3 g0 g1 g2 hp ht h0
end Go.Proofs.YtnedcclmfokdnaaGreat
