/- ShaftFewer: the walk (written by tools/gensfewerl.py). -/
import Derived.Test.YtnedcclmfokdnaaGreatJ27
import Derived.Test.YtnedcclmfokdnaaGreatJ26
import Derived.Test.YtnedcclmfokdnaaGreatZSRefRe
import Derived.Test.YtnedcclmfokdnaaGreatZSRefSK
import Derived.Test.YtnedcclmfokdnaaGreatZSSpecE
import Derived.Test.YtnedcclmfokdnaaGreatZSWithoutE
import Derived.Test.YtnedcclmfokdnaaGreatZSRestsE
namespace Go.Proofs.YtnedcclmfokdnaaGreat
open Go Go.RowKit Go.Shelf
attribute [local go_sem] Oper.semAt_some Rel RelAt RelUpon

/-- The kiln that Without answers. -/
def withoutK (k : Kl) (ids : List Int) : Kl := if checkI k = 0 then lessK k ids else ⟨0, 0, [], [], []⟩
theorem Without_k (k m : Kl) (v u : Value) (ids : List Int) (w : World) (hv : Kiln w v k) (hu : Ints w w.heap.size u ids) (hm : m = withoutK k ids) :
    Calls Tryz.prog 58 #[v, u] w fun e w' => ∃ F1 f1 F2 f2 F3 f3, e = .returned (.tuple #[.agg #[.int .i64 m.room, .int .i64 m.per, .slice F1 m.ls.length f1, .slice F2 m.ds.length f2, .slice F3 m.ws.length f3], .int .i64 (checkI k)]) ∧ Kiln w' (.agg #[.int .i64 m.room, .int .i64 m.per, .slice F1 m.ls.length f1, .slice F2 m.ds.length f2, .slice F3 m.ws.length f3]) m ∧ Below w.heap.size w w' := by
  refine (Without_c k v u ids w hv hu).mono ?_
  rintro e w' ⟨x, rfl, ⟨h1, h2⟩, hb⟩
  have hk : Kiln w' x m := by
    rw [hm]; unfold withoutK
    by_cases hc : checkI k = 0
    · rw [if_pos hc]; exact h1 hc
    · rw [if_neg hc, h2 hc]; exact no_kiln w'
  obtain ⟨F1, f1, F2, f2, F3, f3, rfl⟩ := kilnForm hk
  exact ⟨F1, f1, F2, f2, F3, f3, rfl, hk, hb⟩
theorem rWithout_k (k m : Kl) (v u : Value) (ids : List Int) (w : World) (hv : Kiln w v k) (hu : Ints w w.heap.size u ids) (hm : m = withoutK k ids) :
    Calls Tryz.prog 59 #[v, u] w fun e w' => ∃ F1 f1 F2 f2 F3 f3, e = .returned (.agg #[.int .i64 m.room, .int .i64 m.per, .slice F1 m.ls.length f1, .slice F2 m.ds.length f2, .slice F3 m.ws.length f3, .int .i64 (checkI k)]) ∧ Kiln w' (.agg #[.int .i64 m.room, .int .i64 m.per, .slice F1 m.ls.length f1, .slice F2 m.ds.length f2, .slice F3 m.ws.length f3]) m ∧ Below w.heap.size w w' := by
  refine (rWithout_c k v u ids w hv hu).mono ?_
  rintro e w' ⟨r, p, B1, b1, n1, B2, b2, n2, B3, b3, n3, rfl, hk, hb⟩
  have hk' : Kiln w' (.agg #[.int .i64 r, .int .i64 p, .slice B1 n1 b1, .slice B2 n2 b2, .slice B3 n3 b3]) m := by rw [hm]; exact hk
  obtain ⟨F1, f1, F2, f2, F3, f3, e9⟩ := kilnForm hk'
  simp only [Value.agg.injEq, Array.mk.injEq, List.cons.injEq, Value.int.injEq, Value.slice.injEq, and_true, true_and] at e9
  obtain ⟨rfl, rfl, ⟨rfl, rfl, rfl⟩, ⟨rfl, rfl, rfl⟩, rfl, rfl, rfl⟩ := e9
  exact ⟨B1, b1, B2, b2, B3, b3, rfl, hk', hb⟩
set_option maxRecDepth 100000 in
set_option maxHeartbeats 8000000 in
theorem SFewer_no (rm pr : Int) (A1 : Option Addr) (n1 c1 : Nat) (A2 : Option Addr) (n2 c2 : Nat) (A3 : Option Addr) (n3 c3 : Nat) (fr tu : Int) (I0 : Option Addr) (l5 e5 : Nat) (w : World) (h : fewB3 n1 n2 n3 = false) : Calls Tryz.prog 9 #[.agg #[.int .i64 rm, .int .i64 pr, .slice A1 n1 c1, .slice A2 n2 c2, .slice A3 n3 c3], .int .i64 fr, .int .i64 tu, .slice I0 l5 e5] w fun e w' => e = .returned (.bool true) ∧ Below w.heap.size w w' := by
  go_enter Tryz.func9, Tryz.ntmps9
  have bk := heap_alloc_new w (.cells #[.int .i64 rm, .int .i64 pr, .slice A1 n1 c1, .slice A2 n2 c2, .slice A3 n3 c3] 26)
  have HB := below_alloc w (.cells #[.int .i64 rm, .int .i64 pr, .slice A1 n1 c1, .slice A2 n2 c2, .slice A3 n3 c3] 26)
  have cbk0 := Joins.cell_of_block bk 0
  have cbk1 := Joins.cell_of_block bk 1
  have cbk2 := Joins.cell_of_block bk 2
  have cbk3 := Joins.cell_of_block bk 3
  have cbk4 := Joins.cell_of_block bk 4
  have zbk := size_of_block bk
  go_wp2_with fail
  generalize (w.alloc (.cells #[.int .i64 rm, .int .i64 pr, .slice A1 n1 c1, .slice A2 n2 c2, .slice A3 n3 c3] 26)) = w1 at bk HB cbk0 cbk1 cbk2 cbk3 cbk4 zbk ⊢
  have hB := HB
  clear HB
  refine (lfew_c rm pr A1 A2 A3 n1 c1 n2 c2 n3 c3 _).mono ?_
  rintro e w2 ⟨rfl, hF⟩
  clear cbk0 cbk1 cbk2 cbk3 cbk4 zbk
  replace bk := (hF.block _ (size_of_block bk)).trans bk
  replace hB := below_then hB hF
  clear hF
  rw [h]
  go_wp2_with fail
  refine (sanity_c _).mono ?_
  rintro e w3 ⟨rfl, hF⟩
  replace bk := (hF.block _ (size_of_block bk)).trans bk
  replace hB := below_then hB hF
  clear hF
  go_wp2_with fail
  go_ret
  exact ⟨rfl, hB⟩
set_option maxRecDepth 100000 in
set_option maxHeartbeats 8000000 in
theorem SFewer_long (k : Kl) (A1 A2 A3 : Option Addr) (c1 c2 c3 : Nat) (fr tu : Int) (I0 : Option Addr) (l5 e5 : Nat) (w : World) (hk : Kiln w (.agg #[.int .i64 k.room, .int .i64 k.per, .slice A1 k.ls.length c1, .slice A2 k.ds.length c2, .slice A3 k.ws.length c3]) k) (hf : fewB3 k.ls.length k.ds.length k.ws.length = true) (g : 60 < l5) : Calls Tryz.prog 9 #[.agg #[.int .i64 k.room, .int .i64 k.per, .slice A1 k.ls.length c1, .slice A2 k.ds.length c2, .slice A3 k.ws.length c3], .int .i64 fr, .int .i64 tu, .slice I0 l5 e5] w fun e w' => e = .returned (.bool true) ∧ Below w.heap.size w w' := by
  have hlen := lfew_len hf
  have HK := Lib.hid hk
  clear hk
  go_enter Tryz.func9, Tryz.ntmps9
  have bk := heap_alloc_new w (.cells #[.int .i64 k.room, .int .i64 k.per, .slice A1 k.ls.length c1, .slice A2 k.ds.length c2, .slice A3 k.ws.length c3] 26)
  have HB := below_alloc w (.cells #[.int .i64 k.room, .int .i64 k.per, .slice A1 k.ls.length c1, .slice A2 k.ds.length c2, .slice A3 k.ws.length c3] 26)
  have cbk0 := Joins.cell_of_block bk 0
  have cbk1 := Joins.cell_of_block bk 1
  have cbk2 := Joins.cell_of_block bk 2
  have cbk3 := Joins.cell_of_block bk 3
  have cbk4 := Joins.cell_of_block bk 4
  have zbk := size_of_block bk
  go_wp2_with fail
  generalize (w.alloc (.cells #[.int .i64 k.room, .int .i64 k.per, .slice A1 k.ls.length c1, .slice A2 k.ds.length c2, .slice A3 k.ws.length c3] 26)) = w1 at bk HB cbk0 cbk1 cbk2 cbk3 cbk4 zbk ⊢
  have hB := HB
  clear HB
  refine (lfew_c k.room k.per A1 A2 A3 k.ls.length c1 k.ds.length c2 k.ws.length c3 _).mono ?_
  rintro e w2 ⟨rfl, hF⟩
  clear cbk0 cbk1 cbk2 cbk3 cbk4 zbk
  replace bk := (hF.block _ (size_of_block bk)).trans bk
  replace hB := below_then hB hF
  clear hF
  rw [hf]
  clear hf
  go_wp2_with fail
  all_goals (try (exfalso; omega))
  refine (sanity_c _).mono ?_
  rintro e w3 ⟨rfl, hF⟩
  replace bk := (hF.block _ (size_of_block bk)).trans bk
  replace hB := below_then hB hF
  clear hF
  go_wp2_with fail
  go_ret
  exact ⟨rfl, hB⟩
set_option maxRecDepth 100000 in
set_option maxHeartbeats 8000000 in
theorem SFewer_main (k : Kl) (A1 A2 A3 : Option Addr) (c1 c2 c3 : Nat) (fr tu : Int) (I0 : Option Addr) (l5 e5 : Nat) (w : World) (hk : Kiln w (.agg #[.int .i64 k.room, .int .i64 k.per, .slice A1 k.ls.length c1, .slice A2 k.ds.length c2, .slice A3 k.ws.length c3]) k) (hf : fewB3 k.ls.length k.ds.length k.ws.length = true) (g : l5 ≤ 60) (ids : List Int) (hi : Ints w w.heap.size (.slice I0 l5 e5) ids) (e9 : ids.length = l5) : Calls Tryz.prog 9 #[.agg #[.int .i64 k.room, .int .i64 k.per, .slice A1 k.ls.length c1, .slice A2 k.ds.length c2, .slice A3 k.ws.length c3], .int .i64 fr, .int .i64 tu, .slice I0 l5 e5] w fun e w' => e = .returned (.bool true) ∧ Below w.heap.size w w' := by
  subst e9
  have yR := fun W h => Rests_c k (.agg #[.int .i64 k.room, .int .i64 k.per, .slice A1 k.ls.length c1, .slice A2 k.ds.length c2, .slice A3 k.ws.length c3]) fr tu W h
  have yr := fun W h => rRests_c k (.agg #[.int .i64 k.room, .int .i64 k.per, .slice A1 k.ls.length c1, .slice A2 k.ds.length c2, .slice A3 k.ws.length c3]) fr tu W h
  have yS := fun W h => Suspects_c k (.agg #[.int .i64 k.room, .int .i64 k.per, .slice A1 k.ls.length c1, .slice A2 k.ds.length c2, .slice A3 k.ws.length c3]) W h
  have ys := fun W h => rSuspects_c k (.agg #[.int .i64 k.room, .int .i64 k.per, .slice A1 k.ls.length c1, .slice A2 k.ds.length c2, .slice A3 k.ws.length c3]) W h
  obtain ⟨m, hm⟩ : ∃ m, m = withoutK k ids := ⟨_, rfl⟩
  have yW := fun W h hi => Without_k k m (.agg #[.int .i64 k.room, .int .i64 k.per, .slice A1 k.ls.length c1, .slice A2 k.ds.length c2, .slice A3 k.ws.length c3]) (.slice I0 ids.length e5) ids W h hi hm
  have yw := fun W h hi => rWithout_k k m (.agg #[.int .i64 k.room, .int .i64 k.per, .slice A1 k.ls.length c1, .slice A2 k.ds.length c2, .slice A3 k.ws.length c3]) (.slice I0 ids.length e5) ids W h hi hm
  clear hm
  have hl1 : (restsL k fr tu).length ≤ k.ws.length := by unfold restsL; split; exact put_len _ _ _; simp
  have hl2 : (suspE k).length ≤ k.ws.length := by unfold suspE; split; exact put_len _ _ _; simp
  obtain ⟨RL, h9⟩ : ∃ x, x = restsL k fr tu := ⟨_, rfl⟩
  rw [← h9] at yR yr hl1
  clear h9
  obtain ⟨RE, h9⟩ : ∃ x, x = (mostE k fr tu).2 := ⟨_, rfl⟩
  rw [← h9] at yR yr
  clear h9
  obtain ⟨SL, h9⟩ : ∃ x, x = suspE k := ⟨_, rfl⟩
  rw [← h9] at yS ys hl2
  clear h9
  obtain ⟨CE, h9⟩ : ∃ x, x = checkI k := ⟨_, rfl⟩
  rw [← h9] at yS ys yW yw
  clear h9
  have HRS := Lib.hid yR
  clear yR
  have HRR := Lib.hid yr
  clear yr
  have HSU := Lib.hid yS
  clear yS
  have HSR := Lib.hid ys
  clear ys
  have HWI := Lib.hid yW
  clear yW
  have HWR := Lib.hid yw
  clear yw
  have HIn := Lib.hid hi
  clear hi
  have h1e : (RE == RE) = true := by simp
  have h2e : (CE == CE) = true := by simp
  have hlen := lfew_len hf
  have HK := Lib.hid hk
  clear hk
  go_enter Tryz.func9, Tryz.ntmps9
  have bk := heap_alloc_new w (.cells #[.int .i64 k.room, .int .i64 k.per, .slice A1 k.ls.length c1, .slice A2 k.ds.length c2, .slice A3 k.ws.length c3] 26)
  have HB := below_alloc w (.cells #[.int .i64 k.room, .int .i64 k.per, .slice A1 k.ls.length c1, .slice A2 k.ds.length c2, .slice A3 k.ws.length c3] 26)
  have cbk0 := Joins.cell_of_block bk 0
  have cbk1 := Joins.cell_of_block bk 1
  have cbk2 := Joins.cell_of_block bk 2
  have cbk3 := Joins.cell_of_block bk 3
  have cbk4 := Joins.cell_of_block bk 4
  have zbk := size_of_block bk
  go_wp2_with fail
  generalize (w.alloc (.cells #[.int .i64 k.room, .int .i64 k.per, .slice A1 k.ls.length c1, .slice A2 k.ds.length c2, .slice A3 k.ws.length c3] 26)) = w1 at bk HB cbk0 cbk1 cbk2 cbk3 cbk4 zbk ⊢
  have hB := HB
  clear HB
  refine (lfew_c k.room k.per A1 A2 A3 k.ls.length c1 k.ds.length c2 k.ws.length c3 _).mono ?_
  rintro e w2 ⟨rfl, hF⟩
  clear cbk0 cbk1 cbk2 cbk3 cbk4 zbk
  replace bk := (hF.block _ (size_of_block bk)).trans bk
  replace hB := below_then hB hF
  clear hF
  rw [hf]
  clear hf
  have cbk0 := Joins.cell_of_block bk 0
  have cbk1 := Joins.cell_of_block bk 1
  have cbk2 := Joins.cell_of_block bk 2
  have cbk3 := Joins.cell_of_block bk 3
  have cbk4 := Joins.cell_of_block bk 4
  have zbk := size_of_block bk
  go_wp2_with fail
  all_goals (try (exfalso; omega))
  refine (HRS.out w2 (HK.out.later hB)).mono ?_
  rintro e w3 ⟨u1, rfl, hO1, hF⟩
  clear cbk0 cbk1 cbk2 cbk3 cbk4 zbk
  replace bk := (hF.block _ (size_of_block bk)).trans bk
  replace hB := below_then hB hF
  clear hF
  obtain ⟨P1, p1, rfl⟩ := own_form hO1
  have cbk0 := Joins.cell_of_block bk 0
  have cbk1 := Joins.cell_of_block bk 1
  have cbk2 := Joins.cell_of_block bk 2
  have cbk3 := Joins.cell_of_block bk 3
  have cbk4 := Joins.cell_of_block bk 4
  have zbk := size_of_block bk
  go_wp2_with fail
  refine (HRR.out w3 (HK.out.later hB)).mono ?_
  rintro e w4 ⟨u2, rfl, hO2, hF⟩
  clear cbk0 cbk1 cbk2 cbk3 cbk4 zbk
  replace bk := (hF.block _ (size_of_block bk)).trans bk
  replace hO1 := own_later hO1 hF
  replace hB := below_then hB hF
  clear hF
  obtain ⟨P2, p2, rfl⟩ := own_form hO2
  have b11 := heap_alloc_new w4 (.cells #[.slice P2 RL.length p2, .int .i64 RE] 85)
  have HB := below_alloc w4 (.cells #[.slice P2 RL.length p2, .int .i64 RE] 85)
  have cbk0 := Joins.cell_of_block ((HB.block _ (size_of_block bk)).trans bk) 0
  have cbk1 := Joins.cell_of_block ((HB.block _ (size_of_block bk)).trans bk) 1
  have cbk2 := Joins.cell_of_block ((HB.block _ (size_of_block bk)).trans bk) 2
  have cbk3 := Joins.cell_of_block ((HB.block _ (size_of_block bk)).trans bk) 3
  have cbk4 := Joins.cell_of_block ((HB.block _ (size_of_block bk)).trans bk) 4
  have zbk := size_of_block bk
  go_wp2_with fail
  generalize (w4.alloc (.cells #[.slice P2 RL.length p2, .int .i64 RE] 85)) = w5 at b11 HB cbk0 cbk1 cbk2 cbk3 cbk4 ⊢
  replace bk := (HB.block _ (size_of_block bk)).trans bk
  replace hO1 := own_later hO1 HB
  replace hO2 := own_later hO2 HB
  replace hB := below_then hB HB
  clear HB
  refine (HSU.out w5 (HK.out.later hB)).mono ?_
  rintro e w6 ⟨u3, rfl, hO3, hF⟩
  clear cbk0 cbk1 cbk2 cbk3 cbk4 zbk
  replace bk := (hF.block _ (size_of_block bk)).trans bk
  replace b11 := (hF.block _ (size_of_block b11)).trans b11
  replace hO1 := own_later hO1 hF
  replace hO2 := own_later hO2 hF
  replace hB := below_then hB hF
  clear hF
  obtain ⟨P3, p3, rfl⟩ := own_form hO3
  have cbk0 := Joins.cell_of_block bk 0
  have cbk1 := Joins.cell_of_block bk 1
  have cbk2 := Joins.cell_of_block bk 2
  have cbk3 := Joins.cell_of_block bk 3
  have cbk4 := Joins.cell_of_block bk 4
  have zbk := size_of_block bk
  go_wp2_with fail
  refine (HSR.out w6 (HK.out.later hB)).mono ?_
  rintro e w7 ⟨u4, rfl, hO4, hF⟩
  clear cbk0 cbk1 cbk2 cbk3 cbk4 zbk
  replace bk := (hF.block _ (size_of_block bk)).trans bk
  replace b11 := (hF.block _ (size_of_block b11)).trans b11
  replace hO1 := own_later hO1 hF
  replace hO2 := own_later hO2 hF
  replace hO3 := own_later hO3 hF
  replace hB := below_then hB hF
  clear hF
  obtain ⟨P4, p4, rfl⟩ := own_form hO4
  have b14 := heap_alloc_new w7 (.cells #[.slice P4 SL.length p4, .int .i64 CE] 85)
  have HB := below_alloc w7 (.cells #[.slice P4 SL.length p4, .int .i64 CE] 85)
  have cbk0 := Joins.cell_of_block ((HB.block _ (size_of_block bk)).trans bk) 0
  have cbk1 := Joins.cell_of_block ((HB.block _ (size_of_block bk)).trans bk) 1
  have cbk2 := Joins.cell_of_block ((HB.block _ (size_of_block bk)).trans bk) 2
  have cbk3 := Joins.cell_of_block ((HB.block _ (size_of_block bk)).trans bk) 3
  have cbk4 := Joins.cell_of_block ((HB.block _ (size_of_block bk)).trans bk) 4
  have zbk := size_of_block bk
  go_wp2_with fail
  generalize (w7.alloc (.cells #[.slice P4 SL.length p4, .int .i64 CE] 85)) = w8 at b14 HB cbk0 cbk1 cbk2 cbk3 cbk4 ⊢
  replace bk := (HB.block _ (size_of_block bk)).trans bk
  replace b11 := (HB.block _ (size_of_block b11)).trans b11
  replace hO1 := own_later hO1 HB
  replace hO2 := own_later hO2 HB
  replace hO3 := own_later hO3 HB
  replace hO4 := own_later hO4 HB
  replace hB := below_then hB HB
  clear HB
  refine (HWI.out w8 (HK.out.later hB) (HIn.out.later hB)).mono ?_
  rintro e w9 ⟨F1, f1, F2, f2, F3, f3, rfl, hk1, hF⟩
  clear cbk0 cbk1 cbk2 cbk3 cbk4 zbk
  replace bk := (hF.block _ (size_of_block bk)).trans bk
  replace b11 := (hF.block _ (size_of_block b11)).trans b11
  replace b14 := (hF.block _ (size_of_block b14)).trans b14
  replace hO1 := own_later hO1 hF
  replace hO2 := own_later hO2 hF
  replace hO3 := own_later hO3 hF
  replace hO4 := own_later hO4 hF
  replace hB := below_then hB hF
  clear hF
  skip
  have b15 := heap_alloc_new w9 (.cells #[.int .i64 m.room, .int .i64 m.per, .slice F1 m.ls.length f1, .slice F2 m.ds.length f2, .slice F3 m.ws.length f3] 26)
  have HB := below_alloc w9 (.cells #[.int .i64 m.room, .int .i64 m.per, .slice F1 m.ls.length f1, .slice F2 m.ds.length f2, .slice F3 m.ws.length f3] 26)
  have cbk0 := Joins.cell_of_block ((HB.block _ (size_of_block bk)).trans bk) 0
  have cbk1 := Joins.cell_of_block ((HB.block _ (size_of_block bk)).trans bk) 1
  have cbk2 := Joins.cell_of_block ((HB.block _ (size_of_block bk)).trans bk) 2
  have cbk3 := Joins.cell_of_block ((HB.block _ (size_of_block bk)).trans bk) 3
  have cbk4 := Joins.cell_of_block ((HB.block _ (size_of_block bk)).trans bk) 4
  have zbk := size_of_block bk
  go_wp2_with fail
  generalize (w9.alloc (.cells #[.int .i64 m.room, .int .i64 m.per, .slice F1 m.ls.length f1, .slice F2 m.ds.length f2, .slice F3 m.ws.length f3] 26)) = w10 at b15 HB cbk0 cbk1 cbk2 cbk3 cbk4 ⊢
  replace bk := (HB.block _ (size_of_block bk)).trans bk
  replace b11 := (HB.block _ (size_of_block b11)).trans b11
  replace b14 := (HB.block _ (size_of_block b14)).trans b14
  replace hk1 := hk1.later HB
  replace hO1 := own_later hO1 HB
  replace hO2 := own_later hO2 HB
  replace hO3 := own_later hO3 HB
  replace hO4 := own_later hO4 HB
  replace hB := below_then hB HB
  clear HB
  refine (HWR.out w10 (HK.out.later hB) (HIn.out.later hB)).mono ?_
  rintro e w11 ⟨G1, g1, G2, g2, G3, g3, rfl, hk2, hF⟩
  clear cbk0 cbk1 cbk2 cbk3 cbk4 zbk
  replace bk := (hF.block _ (size_of_block bk)).trans bk
  replace b11 := (hF.block _ (size_of_block b11)).trans b11
  replace b14 := (hF.block _ (size_of_block b14)).trans b14
  replace b15 := (hF.block _ (size_of_block b15)).trans b15
  replace hk1 := hk1.later hF
  replace hO1 := own_later hO1 hF
  replace hO2 := own_later hO2 hF
  replace hO3 := own_later hO3 hF
  replace hO4 := own_later hO4 hF
  replace hB := below_then hB hF
  clear hF
  have b17 := heap_alloc_new w11 (.cells #[.int .i64 m.room, .int .i64 m.per, .slice G1 m.ls.length g1, .slice G2 m.ds.length g2, .slice G3 m.ws.length g3, .int .i64 CE] 92)
  have HB := below_alloc w11 (.cells #[.int .i64 m.room, .int .i64 m.per, .slice G1 m.ls.length g1, .slice G2 m.ds.length g2, .slice G3 m.ws.length g3, .int .i64 CE] 92)
  go_wp2_with fail
  generalize (w11.alloc (.cells #[.int .i64 m.room, .int .i64 m.per, .slice G1 m.ls.length g1, .slice G2 m.ds.length g2, .slice G3 m.ws.length g3, .int .i64 CE] 92)) = w12 at b17 HB  ⊢
  replace bk := (HB.block _ (size_of_block bk)).trans bk
  replace b11 := (HB.block _ (size_of_block b11)).trans b11
  replace b14 := (HB.block _ (size_of_block b14)).trans b14
  replace b15 := (HB.block _ (size_of_block b15)).trans b15
  replace hk1 := hk1.later HB
  replace hk2 := hk2.later HB
  replace hO1 := own_later hO1 HB
  replace hO2 := own_later hO2 HB
  replace hO3 := own_later hO3 HB
  replace hO4 := own_later hO4 HB
  replace hB := below_then hB HB
  clear HB
  refine (sanity_c _).mono ?_
  rintro e w13 ⟨rfl, hF⟩
  replace bk := (hF.block _ (size_of_block bk)).trans bk
  replace b11 := (hF.block _ (size_of_block b11)).trans b11
  replace b14 := (hF.block _ (size_of_block b14)).trans b14
  replace b15 := (hF.block _ (size_of_block b15)).trans b15
  replace b17 := (hF.block _ (size_of_block b17)).trans b17
  replace hk1 := hk1.later hF
  replace hk2 := hk2.later hF
  replace hO1 := own_later hO1 hF
  replace hO2 := own_later hO2 hF
  replace hO3 := own_later hO3 hF
  replace hO4 := own_later hO4 hF
  replace hB := below_then hB hF
  clear hF
  have cb110 := Joins.cell_of_block b11 0
  have cb111 := Joins.cell_of_block b11 1
  have zb11 := size_of_block b11
  go_wp2_with fail
  refine (sameI_t1 _ _ RL w13 (Ints.of_own hO1 (by omega)) (Ints.of_own hO2 (by omega))).mono ?_
  rintro e w14 ⟨rfl, hF⟩
  clear cb110 cb111 zb11
  replace bk := (hF.block _ (size_of_block bk)).trans bk
  replace b11 := (hF.block _ (size_of_block b11)).trans b11
  replace b14 := (hF.block _ (size_of_block b14)).trans b14
  replace b15 := (hF.block _ (size_of_block b15)).trans b15
  replace b17 := (hF.block _ (size_of_block b17)).trans b17
  replace hk1 := hk1.later hF
  replace hk2 := hk2.later hF
  replace hO1 := own_later hO1 hF
  replace hO2 := own_later hO2 hF
  replace hO3 := own_later hO3 hF
  replace hO4 := own_later hO4 hF
  replace hB := below_then hB hF
  clear hF
  have cb110 := Joins.cell_of_block b11 0
  have cb111 := Joins.cell_of_block b11 1
  have zb11 := size_of_block b11
  have cb140 := Joins.cell_of_block b14 0
  have cb141 := Joins.cell_of_block b14 1
  have zb14 := size_of_block b14
  go_wp2_with fail
  refine (sameI_t1 _ _ SL w14 (Ints.of_own hO3 (by omega)) (Ints.of_own hO4 (by omega))).mono ?_
  rintro e w15 ⟨rfl, hF⟩
  clear cb110 cb111 zb11 cb140 cb141 zb14
  replace bk := (hF.block _ (size_of_block bk)).trans bk
  replace b11 := (hF.block _ (size_of_block b11)).trans b11
  replace b14 := (hF.block _ (size_of_block b14)).trans b14
  replace b15 := (hF.block _ (size_of_block b15)).trans b15
  replace b17 := (hF.block _ (size_of_block b17)).trans b17
  replace hk1 := hk1.later hF
  replace hk2 := hk2.later hF
  replace hO1 := own_later hO1 hF
  replace hO2 := own_later hO2 hF
  replace hO3 := own_later hO3 hF
  replace hO4 := own_later hO4 hF
  replace hB := below_then hB hF
  clear hF
  have cb140 := Joins.cell_of_block b14 0
  have cb141 := Joins.cell_of_block b14 1
  have zb14 := size_of_block b14
  have cb150 := Joins.cell_of_block b15 0
  have cb151 := Joins.cell_of_block b15 1
  have cb152 := Joins.cell_of_block b15 2
  have cb153 := Joins.cell_of_block b15 3
  have cb154 := Joins.cell_of_block b15 4
  have zb15 := size_of_block b15
  have cb170 := Joins.cell_of_block b17 0
  have cb171 := Joins.cell_of_block b17 1
  have cb172 := Joins.cell_of_block b17 2
  have cb173 := Joins.cell_of_block b17 3
  have cb174 := Joins.cell_of_block b17 4
  have cb175 := Joins.cell_of_block b17 5
  have zb17 := size_of_block b17
  go_wp2_with fail
  refine (rSameK_c m _ _ w15 hk1 hk2).mono ?_
  rintro e w16 ⟨rfl, hF⟩
  clear cb140 cb141 zb14 cb150 cb151 cb152 cb153 cb154 zb15 cb170 cb171 cb172 cb173 cb174 cb175 zb17
  replace bk := (hF.block _ (size_of_block bk)).trans bk
  replace b11 := (hF.block _ (size_of_block b11)).trans b11
  replace b14 := (hF.block _ (size_of_block b14)).trans b14
  replace b15 := (hF.block _ (size_of_block b15)).trans b15
  replace b17 := (hF.block _ (size_of_block b17)).trans b17
  replace hk1 := hk1.later hF
  replace hk2 := hk2.later hF
  replace hO1 := own_later hO1 hF
  replace hO2 := own_later hO2 hF
  replace hO3 := own_later hO3 hF
  replace hO4 := own_later hO4 hF
  replace hB := below_then hB hF
  clear hF
  have cb170 := Joins.cell_of_block b17 0
  have cb171 := Joins.cell_of_block b17 1
  have cb172 := Joins.cell_of_block b17 2
  have cb173 := Joins.cell_of_block b17 3
  have cb174 := Joins.cell_of_block b17 4
  have cb175 := Joins.cell_of_block b17 5
  have zb17 := size_of_block b17
  go_wp2_with fail
  go_ret
  exact ⟨rfl, hB⟩
theorem ShaftFewer_w (rm pr : Int) (A1 : Option Addr) (n1 c1 : Nat) (A2 : Option Addr) (n2 c2 : Nat) (A3 : Option Addr) (n3 c3 : Nat) (fr tu : Int) (I0 : Option Addr) (l5 e5 : Nat) (w : World)
    (hk : (∃ k : Kl, k.room = rm ∧ k.per = pr ∧ k.ls.length = n1 ∧ k.ds.length = n2 ∧ k.ws.length = n3 ∧ Kiln w (.agg #[.int .i64 rm, .int .i64 pr, .slice A1 n1 c1, .slice A2 n2 c2, .slice A3 n3 c3]) k) ∨ 140737488355328 < n1 ∨ 140737488355328 < n2 ∨ 140737488355328 < n3)
    (his : (∃ l : List Int, l.length = l5 ∧ Ints w w.heap.size (.slice I0 l5 e5) l) ∨ 140737488355328 < l5) :
    Calls Tryz.prog 9 #[.agg #[.int .i64 rm, .int .i64 pr, .slice A1 n1 c1, .slice A2 n2 c2, .slice A3 n3 c3], .int .i64 fr, .int .i64 tu, .slice I0 l5 e5] w fun e w' => e = .returned (.bool true) ∧ Below w.heap.size w w' := by
  rcases kiln_arg hk with h | ⟨hf, k, rfl, rfl, rfl, rfl, rfl, hk⟩
  · exact SFewer_no rm pr A1 n1 c1 A2 n2 c2 A3 n3 c3 fr tu I0 l5 e5 w h
  · by_cases g : l5 ≤ 60
    rotate_left
    · exact SFewer_long k A1 A2 A3 c1 c2 c3 fr tu I0 l5 e5 w hk hf (by omega)
    obtain ⟨ids, e9, hi⟩ : ∃ l : List Int, l.length = l5 ∧ Ints w w.heap.size (.slice I0 l5 e5) l := by
      rcases his with h | h
      · exact h
      · omega
    exact SFewer_main k A1 A2 A3 c1 c2 c3 fr tu I0 l5 e5 w hk hf g ids hi e9
end Go.Proofs.YtnedcclmfokdnaaGreat
