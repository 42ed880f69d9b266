/- ShaftPairs: the walk (written by tools/genspairsl.py). -/
import Derived.Test.YtnedcclmfokdnaaGreatJ27
import Derived.Test.YtnedcclmfokdnaaGreatJ25
import Derived.Test.YtnedcclmfokdnaaGreatZSRefSo
import Derived.Test.YtnedcclmfokdnaaGreatZSSpecE
import Derived.Test.YtnedcclmfokdnaaGreatZSSourcesE
namespace Go.Proofs.YtnedcclmfokdnaaGreat
open Go Go.RowKit Go.Shelf
attribute [local go_sem] Oper.semAt_some Rel RelAt RelUpon

set_option maxRecDepth 100000 in
set_option maxHeartbeats 8000000 in
theorem SPairs_no (rm pr : Int) (A1 : Option Addr) (n1 c1 : Nat) (A2 : Option Addr) (n2 c2 : Nat) (A3 : Option Addr) (n3 c3 : Nat) (d l : Int) (w : World) (h : fewB3 n1 n2 n3 = false) : Calls Tryz.prog 8 #[.agg #[.int .i64 rm, .int .i64 pr, .slice A1 n1 c1, .slice A2 n2 c2, .slice A3 n3 c3], .int .i64 d, .int .i64 l] w fun e w' => e = .returned (.bool true) ∧ Below w.heap.size w w' := by
  go_enter Tryz.func8, Tryz.ntmps8
  have bk := heap_alloc_new w (.cells #[.int .i64 rm, .int .i64 pr, .slice A1 n1 c1, .slice A2 n2 c2, .slice A3 n3 c3] 26)
  have HB := below_alloc w (.cells #[.int .i64 rm, .int .i64 pr, .slice A1 n1 c1, .slice A2 n2 c2, .slice A3 n3 c3] 26)
  have cbk0 := Joins.cell_of_block bk 0
  have cbk1 := Joins.cell_of_block bk 1
  have cbk2 := Joins.cell_of_block bk 2
  have cbk3 := Joins.cell_of_block bk 3
  have cbk4 := Joins.cell_of_block bk 4
  have zbk := size_of_block bk
  go_wp2_with fail
  generalize (w.alloc (.cells #[.int .i64 rm, .int .i64 pr, .slice A1 n1 c1, .slice A2 n2 c2, .slice A3 n3 c3] 26)) = w1 at bk HB cbk0 cbk1 cbk2 cbk3 cbk4 zbk ⊢
  have hB := HB
  clear HB
  refine (lfew_c rm pr A1 A2 A3 n1 c1 n2 c2 n3 c3 _).mono ?_
  rintro e w2 ⟨rfl, hF⟩
  clear cbk0 cbk1 cbk2 cbk3 cbk4 zbk
  replace bk := (hF.block _ (size_of_block bk)).trans bk
  replace hB := below_then hB hF
  clear hF
  rw [h]
  go_wp2_with fail
  refine (sanity_c _).mono ?_
  rintro e w3 ⟨rfl, hF⟩
  replace bk := (hF.block _ (size_of_block bk)).trans bk
  replace hB := below_then hB hF
  clear hF
  go_wp2_with fail
  go_ret
  exact ⟨rfl, hB⟩
set_option maxRecDepth 100000 in
set_option maxHeartbeats 8000000 in
theorem SPairs_skip1 (k : Kl) (A1 A2 A3 : Option Addr) (c1 c2 c3 : Nat) (d l : Int) (w : World) (hk : Kiln w (.agg #[.int .i64 k.room, .int .i64 k.per, .slice A1 k.ls.length c1, .slice A2 k.ds.length c2, .slice A3 k.ws.length c3]) k) (hf : fewB3 k.ls.length k.ds.length k.ws.length = true) (h : 4 < k.ls.length ∧ k.ls.length ≤ 6) : Calls Tryz.prog 8 #[.agg #[.int .i64 k.room, .int .i64 k.per, .slice A1 k.ls.length c1, .slice A2 k.ds.length c2, .slice A3 k.ws.length c3], .int .i64 d, .int .i64 l] w fun e w' => e = .returned (.bool true) ∧ Below w.heap.size w w' := by
  have hlen := lfew_len hf
  have HK := Lib.hid hk
  clear hk
  go_enter Tryz.func8, Tryz.ntmps8
  have bk := heap_alloc_new w (.cells #[.int .i64 k.room, .int .i64 k.per, .slice A1 k.ls.length c1, .slice A2 k.ds.length c2, .slice A3 k.ws.length c3] 26)
  have HB := below_alloc w (.cells #[.int .i64 k.room, .int .i64 k.per, .slice A1 k.ls.length c1, .slice A2 k.ds.length c2, .slice A3 k.ws.length c3] 26)
  have cbk0 := Joins.cell_of_block bk 0
  have cbk1 := Joins.cell_of_block bk 1
  have cbk2 := Joins.cell_of_block bk 2
  have cbk3 := Joins.cell_of_block bk 3
  have cbk4 := Joins.cell_of_block bk 4
  have zbk := size_of_block bk
  go_wp2_with fail
  generalize (w.alloc (.cells #[.int .i64 k.room, .int .i64 k.per, .slice A1 k.ls.length c1, .slice A2 k.ds.length c2, .slice A3 k.ws.length c3] 26)) = w1 at bk HB cbk0 cbk1 cbk2 cbk3 cbk4 zbk ⊢
  have hB := HB
  clear HB
  refine (lfew_c k.room k.per A1 A2 A3 k.ls.length c1 k.ds.length c2 k.ws.length c3 _).mono ?_
  rintro e w2 ⟨rfl, hF⟩
  clear cbk0 cbk1 cbk2 cbk3 cbk4 zbk
  replace bk := (hF.block _ (size_of_block bk)).trans bk
  replace hB := below_then hB hF
  clear hF
  rw [hf]
  clear hf
  have cbk0 := Joins.cell_of_block bk 0
  have cbk1 := Joins.cell_of_block bk 1
  have cbk2 := Joins.cell_of_block bk 2
  have cbk3 := Joins.cell_of_block bk 3
  have cbk4 := Joins.cell_of_block bk 4
  have zbk := size_of_block bk
  go_wp2_with fail
  all_goals (try (exfalso; omega))
  all_goals (refine (sanity_c _).mono ?_; rintro e w9 ⟨rfl, hF⟩; go_wp2_with fail; go_ret; exact ⟨rfl, below_then hB hF⟩)
set_option maxRecDepth 100000 in
set_option maxHeartbeats 8000000 in
theorem SPairs_skip2 (k : Kl) (A1 A2 A3 : Option Addr) (c1 c2 c3 : Nat) (d l : Int) (w : World) (hk : Kiln w (.agg #[.int .i64 k.room, .int .i64 k.per, .slice A1 k.ls.length c1, .slice A2 k.ds.length c2, .slice A3 k.ws.length c3]) k) (hf : fewB3 k.ls.length k.ds.length k.ws.length = true) (h : 4 < k.ds.length ∧ k.ds.length ≤ 6) : Calls Tryz.prog 8 #[.agg #[.int .i64 k.room, .int .i64 k.per, .slice A1 k.ls.length c1, .slice A2 k.ds.length c2, .slice A3 k.ws.length c3], .int .i64 d, .int .i64 l] w fun e w' => e = .returned (.bool true) ∧ Below w.heap.size w w' := by
  have hlen := lfew_len hf
  have HK := Lib.hid hk
  clear hk
  go_enter Tryz.func8, Tryz.ntmps8
  have bk := heap_alloc_new w (.cells #[.int .i64 k.room, .int .i64 k.per, .slice A1 k.ls.length c1, .slice A2 k.ds.length c2, .slice A3 k.ws.length c3] 26)
  have HB := below_alloc w (.cells #[.int .i64 k.room, .int .i64 k.per, .slice A1 k.ls.length c1, .slice A2 k.ds.length c2, .slice A3 k.ws.length c3] 26)
  have cbk0 := Joins.cell_of_block bk 0
  have cbk1 := Joins.cell_of_block bk 1
  have cbk2 := Joins.cell_of_block bk 2
  have cbk3 := Joins.cell_of_block bk 3
  have cbk4 := Joins.cell_of_block bk 4
  have zbk := size_of_block bk
  go_wp2_with fail
  generalize (w.alloc (.cells #[.int .i64 k.room, .int .i64 k.per, .slice A1 k.ls.length c1, .slice A2 k.ds.length c2, .slice A3 k.ws.length c3] 26)) = w1 at bk HB cbk0 cbk1 cbk2 cbk3 cbk4 zbk ⊢
  have hB := HB
  clear HB
  refine (lfew_c k.room k.per A1 A2 A3 k.ls.length c1 k.ds.length c2 k.ws.length c3 _).mono ?_
  rintro e w2 ⟨rfl, hF⟩
  clear cbk0 cbk1 cbk2 cbk3 cbk4 zbk
  replace bk := (hF.block _ (size_of_block bk)).trans bk
  replace hB := below_then hB hF
  clear hF
  rw [hf]
  clear hf
  have cbk0 := Joins.cell_of_block bk 0
  have cbk1 := Joins.cell_of_block bk 1
  have cbk2 := Joins.cell_of_block bk 2
  have cbk3 := Joins.cell_of_block bk 3
  have cbk4 := Joins.cell_of_block bk 4
  have zbk := size_of_block bk
  go_wp2_with fail
  all_goals (try (exfalso; omega))
  all_goals (refine (sanity_c _).mono ?_; rintro e w9 ⟨rfl, hF⟩; go_wp2_with fail; go_ret; exact ⟨rfl, below_then hB hF⟩)
set_option maxRecDepth 100000 in
set_option maxHeartbeats 8000000 in
theorem SPairs_s00 (k : Kl) (A1 A2 A3 : Option Addr) (c1 c2 c3 : Nat) (d l : Int) (w : World) (hk : Kiln w (.agg #[.int .i64 k.room, .int .i64 k.per, .slice A1 k.ls.length c1, .slice A2 k.ds.length c2, .slice A3 k.ws.length c3]) k) (hf : fewB3 k.ls.length k.ds.length k.ws.length = true) (h1 : k.ls.length ≤ 4) (h2 : k.ds.length ≤ 4) (h3 : k.ws.length = 5) : Calls Tryz.prog 8 #[.agg #[.int .i64 k.room, .int .i64 k.per, .slice A1 k.ls.length c1, .slice A2 k.ds.length c2, .slice A3 k.ws.length c3], .int .i64 d, .int .i64 l] w fun e w' => e = .returned (.bool true) ∧ Below w.heap.size w w' := by
  have h5 : ((k.ws.length : Int) == 5) = true := by rw [beq_iff_eq]; omega
  clear h3
  have hlen := lfew_len hf
  have HK := Lib.hid hk
  clear hk
  go_enter Tryz.func8, Tryz.ntmps8
  have bk := heap_alloc_new w (.cells #[.int .i64 k.room, .int .i64 k.per, .slice A1 k.ls.length c1, .slice A2 k.ds.length c2, .slice A3 k.ws.length c3] 26)
  have HB := below_alloc w (.cells #[.int .i64 k.room, .int .i64 k.per, .slice A1 k.ls.length c1, .slice A2 k.ds.length c2, .slice A3 k.ws.length c3] 26)
  have cbk0 := Joins.cell_of_block bk 0
  have cbk1 := Joins.cell_of_block bk 1
  have cbk2 := Joins.cell_of_block bk 2
  have cbk3 := Joins.cell_of_block bk 3
  have cbk4 := Joins.cell_of_block bk 4
  have zbk := size_of_block bk
  go_wp2_with fail
  generalize (w.alloc (.cells #[.int .i64 k.room, .int .i64 k.per, .slice A1 k.ls.length c1, .slice A2 k.ds.length c2, .slice A3 k.ws.length c3] 26)) = w1 at bk HB cbk0 cbk1 cbk2 cbk3 cbk4 zbk ⊢
  have hB := HB
  clear HB
  refine (lfew_c k.room k.per A1 A2 A3 k.ls.length c1 k.ds.length c2 k.ws.length c3 _).mono ?_
  rintro e w2 ⟨rfl, hF⟩
  clear cbk0 cbk1 cbk2 cbk3 cbk4 zbk
  replace bk := (hF.block _ (size_of_block bk)).trans bk
  replace hB := below_then hB hF
  clear hF
  rw [hf]
  clear hf
  have cbk0 := Joins.cell_of_block bk 0
  have cbk1 := Joins.cell_of_block bk 1
  have cbk2 := Joins.cell_of_block bk 2
  have cbk3 := Joins.cell_of_block bk 3
  have cbk4 := Joins.cell_of_block bk 4
  have zbk := size_of_block bk
  go_wp2_with fail
  all_goals (try (exfalso; omega))
  all_goals (refine (sanity_c _).mono ?_; rintro e w9 ⟨rfl, hF⟩; go_wp2_with fail; go_ret; exact ⟨rfl, below_then hB hF⟩)
set_option maxRecDepth 100000 in
set_option maxHeartbeats 8000000 in
theorem SPairs_m00 (k : Kl) (A1 A2 A3 : Option Addr) (c1 c2 c3 : Nat) (d l : Int) (w : World) (hk : Kiln w (.agg #[.int .i64 k.room, .int .i64 k.per, .slice A1 k.ls.length c1, .slice A2 k.ds.length c2, .slice A3 k.ws.length c3]) k) (hf : fewB3 k.ls.length k.ds.length k.ws.length = true) (h1 : k.ls.length ≤ 4) (h2 : k.ds.length ≤ 4) (h3 : k.ws.length ≠ 5) : Calls Tryz.prog 8 #[.agg #[.int .i64 k.room, .int .i64 k.per, .slice A1 k.ls.length c1, .slice A2 k.ds.length c2, .slice A3 k.ws.length c3], .int .i64 d, .int .i64 l] w fun e w' => e = .returned (.bool true) ∧ Below w.heap.size w w' := by
  have h5 : ((k.ws.length : Int) == 5) = false := by rw [beq_eq_false_iff_ne]; omega
  obtain ⟨s1, s2⟩ := source_len k d
  obtain ⟨s3, s4⟩ := sink_len k l
  have yP := fun W h => Sources_c k (.agg #[.int .i64 k.room, .int .i64 k.per, .slice A1 k.ls.length c1, .slice A2 k.ds.length c2, .slice A3 k.ws.length c3]) d W h
  have yQ := fun W h => rSources_c k (.agg #[.int .i64 k.room, .int .i64 k.per, .slice A1 k.ls.length c1, .slice A2 k.ds.length c2, .slice A3 k.ws.length c3]) d W h
  have yR := fun W h => Sinks_c k (.agg #[.int .i64 k.room, .int .i64 k.per, .slice A1 k.ls.length c1, .slice A2 k.ds.length c2, .slice A3 k.ws.length c3]) l W h
  have yS := fun W h => rSinks_c k (.agg #[.int .i64 k.room, .int .i64 k.per, .slice A1 k.ls.length c1, .slice A2 k.ds.length c2, .slice A3 k.ws.length c3]) l W h
  obtain ⟨SE, h9⟩ : ∃ x, x = sourceE k d := ⟨_, rfl⟩
  rw [← h9] at yP yQ
  clear h9
  obtain ⟨SS, h9⟩ : ∃ x, x = sourceS k d := ⟨_, rfl⟩
  rw [← h9] at yP yQ s1
  clear h9
  obtain ⟨SM, h9⟩ : ∃ x, x = sourceM k d := ⟨_, rfl⟩
  rw [← h9] at yP yQ s2
  clear h9
  obtain ⟨TE, h9⟩ : ∃ x, x = sinkE k l := ⟨_, rfl⟩
  rw [← h9] at yR yS
  clear h9
  obtain ⟨TS, h9⟩ : ∃ x, x = sinkS k l := ⟨_, rfl⟩
  rw [← h9] at yR yS s3
  clear h9
  obtain ⟨TM, h9⟩ : ∃ x, x = sinkM k l := ⟨_, rfl⟩
  rw [← h9] at yR yS s4
  clear h9
  have HP := Lib.hid yP
  clear yP
  have HQ := Lib.hid yQ
  clear yQ
  have HR := Lib.hid yR
  clear yR
  have HS := Lib.hid yS
  clear yS
  have hlen := lfew_len hf
  have HK := Lib.hid hk
  clear hk
  go_enter Tryz.func8, Tryz.ntmps8
  have bk := heap_alloc_new w (.cells #[.int .i64 k.room, .int .i64 k.per, .slice A1 k.ls.length c1, .slice A2 k.ds.length c2, .slice A3 k.ws.length c3] 26)
  have HB := below_alloc w (.cells #[.int .i64 k.room, .int .i64 k.per, .slice A1 k.ls.length c1, .slice A2 k.ds.length c2, .slice A3 k.ws.length c3] 26)
  have cbk0 := Joins.cell_of_block bk 0
  have cbk1 := Joins.cell_of_block bk 1
  have cbk2 := Joins.cell_of_block bk 2
  have cbk3 := Joins.cell_of_block bk 3
  have cbk4 := Joins.cell_of_block bk 4
  have zbk := size_of_block bk
  go_wp2_with fail
  generalize (w.alloc (.cells #[.int .i64 k.room, .int .i64 k.per, .slice A1 k.ls.length c1, .slice A2 k.ds.length c2, .slice A3 k.ws.length c3] 26)) = w1 at bk HB cbk0 cbk1 cbk2 cbk3 cbk4 zbk ⊢
  have hB := HB
  clear HB
  refine (lfew_c k.room k.per A1 A2 A3 k.ls.length c1 k.ds.length c2 k.ws.length c3 _).mono ?_
  rintro e w2 ⟨rfl, hF⟩
  clear cbk0 cbk1 cbk2 cbk3 cbk4 zbk
  replace bk := (hF.block _ (size_of_block bk)).trans bk
  replace hB := below_then hB hF
  clear hF
  rw [hf]
  clear hf
  have cbk0 := Joins.cell_of_block bk 0
  have cbk1 := Joins.cell_of_block bk 1
  have cbk2 := Joins.cell_of_block bk 2
  have cbk3 := Joins.cell_of_block bk 3
  have cbk4 := Joins.cell_of_block bk 4
  have zbk := size_of_block bk
  go_wp2_with fail
  all_goals (try (exfalso; omega))
  have hse : (SE == SE) = true := by simp
  have hte : (TE == TE) = true := by simp
  have l5 : k.ws.length ≠ 5 := h3
  refine (HP.out w2 (HK.out.later hB)).mono ?_
  rintro e w3 ⟨u1, u2, rfl, ⟨hO1, hO2⟩, hF⟩
  clear cbk0 cbk1 cbk2 cbk3 cbk4 zbk
  replace bk := (hF.block _ (size_of_block bk)).trans bk
  replace hB := below_then hB hF
  clear hF
  obtain ⟨P1, p1, rfl⟩ := own_form hO1
  obtain ⟨P2, p2, rfl⟩ := own_form hO2
  have cbk0 := Joins.cell_of_block bk 0
  have cbk1 := Joins.cell_of_block bk 1
  have cbk2 := Joins.cell_of_block bk 2
  have cbk3 := Joins.cell_of_block bk 3
  have cbk4 := Joins.cell_of_block bk 4
  have zbk := size_of_block bk
  go_wp2_with fail
  refine (HQ.out w3 (HK.out.later hB)).mono ?_
  rintro e w4 ⟨u3, u4, rfl, ⟨hO3, hO4⟩, hF⟩
  clear cbk0 cbk1 cbk2 cbk3 cbk4 zbk
  replace bk := (hF.block _ (size_of_block bk)).trans bk
  replace hO1 := own_later hO1 hF
  replace hO2 := own_later hO2 hF
  replace hB := below_then hB hF
  clear hF
  obtain ⟨P3, p3, rfl⟩ := own_form hO3
  obtain ⟨P4, p4, rfl⟩ := own_form hO4
  have b10 := heap_alloc_new w4 (.cells #[.slice P3 SS.length p3, .slice P4 SM.length p4, .int .i64 SE] 79)
  have HB := below_alloc w4 (.cells #[.slice P3 SS.length p3, .slice P4 SM.length p4, .int .i64 SE] 79)
  have cbk0 := Joins.cell_of_block ((HB.block _ (size_of_block bk)).trans bk) 0
  have cbk1 := Joins.cell_of_block ((HB.block _ (size_of_block bk)).trans bk) 1
  have cbk2 := Joins.cell_of_block ((HB.block _ (size_of_block bk)).trans bk) 2
  have cbk3 := Joins.cell_of_block ((HB.block _ (size_of_block bk)).trans bk) 3
  have cbk4 := Joins.cell_of_block ((HB.block _ (size_of_block bk)).trans bk) 4
  have zbk := size_of_block bk
  go_wp2_with fail
  generalize (w4.alloc (.cells #[.slice P3 SS.length p3, .slice P4 SM.length p4, .int .i64 SE] 79)) = w5 at b10 HB cbk0 cbk1 cbk2 cbk3 cbk4 ⊢
  replace bk := (HB.block _ (size_of_block bk)).trans bk
  replace hO1 := own_later hO1 HB
  replace hO2 := own_later hO2 HB
  replace hO3 := own_later hO3 HB
  replace hO4 := own_later hO4 HB
  replace hB := below_then hB HB
  clear HB
  refine (HR.out w5 (HK.out.later hB)).mono ?_
  rintro e w6 ⟨u5, u6, rfl, ⟨hO5, hO6⟩, hF⟩
  clear cbk0 cbk1 cbk2 cbk3 cbk4 zbk
  replace bk := (hF.block _ (size_of_block bk)).trans bk
  replace b10 := (hF.block _ (size_of_block b10)).trans b10
  replace hO1 := own_later hO1 hF
  replace hO2 := own_later hO2 hF
  replace hO3 := own_later hO3 hF
  replace hO4 := own_later hO4 hF
  replace hB := below_then hB hF
  clear hF
  obtain ⟨P5, p5, rfl⟩ := own_form hO5
  obtain ⟨P6, p6, rfl⟩ := own_form hO6
  have cbk0 := Joins.cell_of_block bk 0
  have cbk1 := Joins.cell_of_block bk 1
  have cbk2 := Joins.cell_of_block bk 2
  have cbk3 := Joins.cell_of_block bk 3
  have cbk4 := Joins.cell_of_block bk 4
  have zbk := size_of_block bk
  go_wp2_with fail
  refine (HS.out w6 (HK.out.later hB)).mono ?_
  rintro e w7 ⟨u7, u8, rfl, ⟨hO7, hO8⟩, hF⟩
  clear cbk0 cbk1 cbk2 cbk3 cbk4 zbk
  replace bk := (hF.block _ (size_of_block bk)).trans bk
  replace b10 := (hF.block _ (size_of_block b10)).trans b10
  replace hO1 := own_later hO1 hF
  replace hO2 := own_later hO2 hF
  replace hO3 := own_later hO3 hF
  replace hO4 := own_later hO4 hF
  replace hO5 := own_later hO5 hF
  replace hO6 := own_later hO6 hF
  replace hB := below_then hB hF
  clear hF
  obtain ⟨P7, p7, rfl⟩ := own_form hO7
  obtain ⟨P8, p8, rfl⟩ := own_form hO8
  have b14 := heap_alloc_new w7 (.cells #[.slice P7 TS.length p7, .slice P8 TM.length p8, .int .i64 TE] 79)
  have HB := below_alloc w7 (.cells #[.slice P7 TS.length p7, .slice P8 TM.length p8, .int .i64 TE] 79)
  go_wp2_with fail
  generalize (w7.alloc (.cells #[.slice P7 TS.length p7, .slice P8 TM.length p8, .int .i64 TE] 79)) = w8 at b14 HB  ⊢
  replace bk := (HB.block _ (size_of_block bk)).trans bk
  replace b10 := (HB.block _ (size_of_block b10)).trans b10
  replace hO1 := own_later hO1 HB
  replace hO2 := own_later hO2 HB
  replace hO3 := own_later hO3 HB
  replace hO4 := own_later hO4 HB
  replace hO5 := own_later hO5 HB
  replace hO6 := own_later hO6 HB
  replace hO7 := own_later hO7 HB
  replace hO8 := own_later hO8 HB
  replace hB := below_then hB HB
  clear HB
  refine (sanity_c _).mono ?_
  rintro e w9 ⟨rfl, hF⟩
  replace bk := (hF.block _ (size_of_block bk)).trans bk
  replace b10 := (hF.block _ (size_of_block b10)).trans b10
  replace b14 := (hF.block _ (size_of_block b14)).trans b14
  replace hO1 := own_later hO1 hF
  replace hO2 := own_later hO2 hF
  replace hO3 := own_later hO3 hF
  replace hO4 := own_later hO4 hF
  replace hO5 := own_later hO5 hF
  replace hO6 := own_later hO6 hF
  replace hO7 := own_later hO7 hF
  replace hO8 := own_later hO8 hF
  replace hB := below_then hB hF
  clear hF
  have cb100 := Joins.cell_of_block b10 0
  have cb101 := Joins.cell_of_block b10 1
  have cb102 := Joins.cell_of_block b10 2
  have zb10 := size_of_block b10
  go_wp2_with fail
  refine (sameI_t1 _ _ SS w9 (Ints.of_own hO1 (by omega)) (Ints.of_own hO3 (by omega))).mono ?_
  rintro e w10 ⟨rfl, hF⟩
  clear cb100 cb101 cb102 zb10
  replace bk := (hF.block _ (size_of_block bk)).trans bk
  replace b10 := (hF.block _ (size_of_block b10)).trans b10
  replace b14 := (hF.block _ (size_of_block b14)).trans b14
  replace hO1 := own_later hO1 hF
  replace hO2 := own_later hO2 hF
  replace hO3 := own_later hO3 hF
  replace hO4 := own_later hO4 hF
  replace hO5 := own_later hO5 hF
  replace hO6 := own_later hO6 hF
  replace hO7 := own_later hO7 hF
  replace hO8 := own_later hO8 hF
  replace hB := below_then hB hF
  clear hF
  have cb100 := Joins.cell_of_block b10 0
  have cb101 := Joins.cell_of_block b10 1
  have cb102 := Joins.cell_of_block b10 2
  have zb10 := size_of_block b10
  go_wp2_with fail
  refine (sameI_t1 _ _ SM w10 (Ints.of_own hO2 (by omega)) (Ints.of_own hO4 (by omega))).mono ?_
  rintro e w11 ⟨rfl, hF⟩
  clear cb100 cb101 cb102 zb10
  replace bk := (hF.block _ (size_of_block bk)).trans bk
  replace b10 := (hF.block _ (size_of_block b10)).trans b10
  replace b14 := (hF.block _ (size_of_block b14)).trans b14
  replace hO1 := own_later hO1 hF
  replace hO2 := own_later hO2 hF
  replace hO3 := own_later hO3 hF
  replace hO4 := own_later hO4 hF
  replace hO5 := own_later hO5 hF
  replace hO6 := own_later hO6 hF
  replace hO7 := own_later hO7 hF
  replace hO8 := own_later hO8 hF
  replace hB := below_then hB hF
  clear hF
  have cb100 := Joins.cell_of_block b10 0
  have cb101 := Joins.cell_of_block b10 1
  have cb102 := Joins.cell_of_block b10 2
  have zb10 := size_of_block b10
  have cb140 := Joins.cell_of_block b14 0
  have cb141 := Joins.cell_of_block b14 1
  have cb142 := Joins.cell_of_block b14 2
  have zb14 := size_of_block b14
  go_wp2_with fail
  refine (sameI_t1 _ _ TS w11 (Ints.of_own hO5 (by omega)) (Ints.of_own hO7 (by omega))).mono ?_
  rintro e w12 ⟨rfl, hF⟩
  clear cb100 cb101 cb102 zb10 cb140 cb141 cb142 zb14
  replace bk := (hF.block _ (size_of_block bk)).trans bk
  replace b10 := (hF.block _ (size_of_block b10)).trans b10
  replace b14 := (hF.block _ (size_of_block b14)).trans b14
  replace hO1 := own_later hO1 hF
  replace hO2 := own_later hO2 hF
  replace hO3 := own_later hO3 hF
  replace hO4 := own_later hO4 hF
  replace hO5 := own_later hO5 hF
  replace hO6 := own_later hO6 hF
  replace hO7 := own_later hO7 hF
  replace hO8 := own_later hO8 hF
  replace hB := below_then hB hF
  clear hF
  have cb140 := Joins.cell_of_block b14 0
  have cb141 := Joins.cell_of_block b14 1
  have cb142 := Joins.cell_of_block b14 2
  have zb14 := size_of_block b14
  go_wp2_with fail
  refine (sameI_t1 _ _ TM w12 (Ints.of_own hO6 (by omega)) (Ints.of_own hO8 (by omega))).mono ?_
  rintro e w13 ⟨rfl, hF⟩
  clear cb140 cb141 cb142 zb14
  replace bk := (hF.block _ (size_of_block bk)).trans bk
  replace b10 := (hF.block _ (size_of_block b10)).trans b10
  replace b14 := (hF.block _ (size_of_block b14)).trans b14
  replace hO1 := own_later hO1 hF
  replace hO2 := own_later hO2 hF
  replace hO3 := own_later hO3 hF
  replace hO4 := own_later hO4 hF
  replace hO5 := own_later hO5 hF
  replace hO6 := own_later hO6 hF
  replace hO7 := own_later hO7 hF
  replace hO8 := own_later hO8 hF
  replace hB := below_then hB hF
  clear hF
  have cb140 := Joins.cell_of_block b14 0
  have cb141 := Joins.cell_of_block b14 1
  have cb142 := Joins.cell_of_block b14 2
  have zb14 := size_of_block b14
  go_wp2_with fail
  go_ret
  exact ⟨rfl, hB⟩
set_option maxRecDepth 100000 in
set_option maxHeartbeats 8000000 in
theorem SPairs_s01 (k : Kl) (A1 A2 A3 : Option Addr) (c1 c2 c3 : Nat) (d l : Int) (w : World) (hk : Kiln w (.agg #[.int .i64 k.room, .int .i64 k.per, .slice A1 k.ls.length c1, .slice A2 k.ds.length c2, .slice A3 k.ws.length c3]) k) (hf : fewB3 k.ls.length k.ds.length k.ws.length = true) (h1 : k.ls.length ≤ 4) (h2 : 6 < k.ds.length) (h3 : k.ws.length = 5) : Calls Tryz.prog 8 #[.agg #[.int .i64 k.room, .int .i64 k.per, .slice A1 k.ls.length c1, .slice A2 k.ds.length c2, .slice A3 k.ws.length c3], .int .i64 d, .int .i64 l] w fun e w' => e = .returned (.bool true) ∧ Below w.heap.size w w' := by
  have h5 : ((k.ws.length : Int) == 5) = true := by rw [beq_iff_eq]; omega
  clear h3
  have hlen := lfew_len hf
  have HK := Lib.hid hk
  clear hk
  go_enter Tryz.func8, Tryz.ntmps8
  have bk := heap_alloc_new w (.cells #[.int .i64 k.room, .int .i64 k.per, .slice A1 k.ls.length c1, .slice A2 k.ds.length c2, .slice A3 k.ws.length c3] 26)
  have HB := below_alloc w (.cells #[.int .i64 k.room, .int .i64 k.per, .slice A1 k.ls.length c1, .slice A2 k.ds.length c2, .slice A3 k.ws.length c3] 26)
  have cbk0 := Joins.cell_of_block bk 0
  have cbk1 := Joins.cell_of_block bk 1
  have cbk2 := Joins.cell_of_block bk 2
  have cbk3 := Joins.cell_of_block bk 3
  have cbk4 := Joins.cell_of_block bk 4
  have zbk := size_of_block bk
  go_wp2_with fail
  generalize (w.alloc (.cells #[.int .i64 k.room, .int .i64 k.per, .slice A1 k.ls.length c1, .slice A2 k.ds.length c2, .slice A3 k.ws.length c3] 26)) = w1 at bk HB cbk0 cbk1 cbk2 cbk3 cbk4 zbk ⊢
  have hB := HB
  clear HB
  refine (lfew_c k.room k.per A1 A2 A3 k.ls.length c1 k.ds.length c2 k.ws.length c3 _).mono ?_
  rintro e w2 ⟨rfl, hF⟩
  clear cbk0 cbk1 cbk2 cbk3 cbk4 zbk
  replace bk := (hF.block _ (size_of_block bk)).trans bk
  replace hB := below_then hB hF
  clear hF
  rw [hf]
  clear hf
  have cbk0 := Joins.cell_of_block bk 0
  have cbk1 := Joins.cell_of_block bk 1
  have cbk2 := Joins.cell_of_block bk 2
  have cbk3 := Joins.cell_of_block bk 3
  have cbk4 := Joins.cell_of_block bk 4
  have zbk := size_of_block bk
  go_wp2_with fail
  all_goals (try (exfalso; omega))
  all_goals (refine (sanity_c _).mono ?_; rintro e w9 ⟨rfl, hF⟩; go_wp2_with fail; go_ret; exact ⟨rfl, below_then hB hF⟩)
set_option maxRecDepth 100000 in
set_option maxHeartbeats 8000000 in
theorem SPairs_m01 (k : Kl) (A1 A2 A3 : Option Addr) (c1 c2 c3 : Nat) (d l : Int) (w : World) (hk : Kiln w (.agg #[.int .i64 k.room, .int .i64 k.per, .slice A1 k.ls.length c1, .slice A2 k.ds.length c2, .slice A3 k.ws.length c3]) k) (hf : fewB3 k.ls.length k.ds.length k.ws.length = true) (h1 : k.ls.length ≤ 4) (h2 : 6 < k.ds.length) (h3 : k.ws.length ≠ 5) : Calls Tryz.prog 8 #[.agg #[.int .i64 k.room, .int .i64 k.per, .slice A1 k.ls.length c1, .slice A2 k.ds.length c2, .slice A3 k.ws.length c3], .int .i64 d, .int .i64 l] w fun e w' => e = .returned (.bool true) ∧ Below w.heap.size w w' := by
  have h5 : ((k.ws.length : Int) == 5) = false := by rw [beq_eq_false_iff_ne]; omega
  obtain ⟨s1, s2⟩ := source_len k d
  obtain ⟨s3, s4⟩ := sink_len k l
  have yP := fun W h => Sources_c k (.agg #[.int .i64 k.room, .int .i64 k.per, .slice A1 k.ls.length c1, .slice A2 k.ds.length c2, .slice A3 k.ws.length c3]) d W h
  have yQ := fun W h => rSources_c k (.agg #[.int .i64 k.room, .int .i64 k.per, .slice A1 k.ls.length c1, .slice A2 k.ds.length c2, .slice A3 k.ws.length c3]) d W h
  have yR := fun W h => Sinks_c k (.agg #[.int .i64 k.room, .int .i64 k.per, .slice A1 k.ls.length c1, .slice A2 k.ds.length c2, .slice A3 k.ws.length c3]) l W h
  have yS := fun W h => rSinks_c k (.agg #[.int .i64 k.room, .int .i64 k.per, .slice A1 k.ls.length c1, .slice A2 k.ds.length c2, .slice A3 k.ws.length c3]) l W h
  obtain ⟨SE, h9⟩ : ∃ x, x = sourceE k d := ⟨_, rfl⟩
  rw [← h9] at yP yQ
  clear h9
  obtain ⟨SS, h9⟩ : ∃ x, x = sourceS k d := ⟨_, rfl⟩
  rw [← h9] at yP yQ s1
  clear h9
  obtain ⟨SM, h9⟩ : ∃ x, x = sourceM k d := ⟨_, rfl⟩
  rw [← h9] at yP yQ s2
  clear h9
  obtain ⟨TE, h9⟩ : ∃ x, x = sinkE k l := ⟨_, rfl⟩
  rw [← h9] at yR yS
  clear h9
  obtain ⟨TS, h9⟩ : ∃ x, x = sinkS k l := ⟨_, rfl⟩
  rw [← h9] at yR yS s3
  clear h9
  obtain ⟨TM, h9⟩ : ∃ x, x = sinkM k l := ⟨_, rfl⟩
  rw [← h9] at yR yS s4
  clear h9
  have HP := Lib.hid yP
  clear yP
  have HQ := Lib.hid yQ
  clear yQ
  have HR := Lib.hid yR
  clear yR
  have HS := Lib.hid yS
  clear yS
  have hlen := lfew_len hf
  have HK := Lib.hid hk
  clear hk
  go_enter Tryz.func8, Tryz.ntmps8
  have bk := heap_alloc_new w (.cells #[.int .i64 k.room, .int .i64 k.per, .slice A1 k.ls.length c1, .slice A2 k.ds.length c2, .slice A3 k.ws.length c3] 26)
  have HB := below_alloc w (.cells #[.int .i64 k.room, .int .i64 k.per, .slice A1 k.ls.length c1, .slice A2 k.ds.length c2, .slice A3 k.ws.length c3] 26)
  have cbk0 := Joins.cell_of_block bk 0
  have cbk1 := Joins.cell_of_block bk 1
  have cbk2 := Joins.cell_of_block bk 2
  have cbk3 := Joins.cell_of_block bk 3
  have cbk4 := Joins.cell_of_block bk 4
  have zbk := size_of_block bk
  go_wp2_with fail
  generalize (w.alloc (.cells #[.int .i64 k.room, .int .i64 k.per, .slice A1 k.ls.length c1, .slice A2 k.ds.length c2, .slice A3 k.ws.length c3] 26)) = w1 at bk HB cbk0 cbk1 cbk2 cbk3 cbk4 zbk ⊢
  have hB := HB
  clear HB
  refine (lfew_c k.room k.per A1 A2 A3 k.ls.length c1 k.ds.length c2 k.ws.length c3 _).mono ?_
  rintro e w2 ⟨rfl, hF⟩
  clear cbk0 cbk1 cbk2 cbk3 cbk4 zbk
  replace bk := (hF.block _ (size_of_block bk)).trans bk
  replace hB := below_then hB hF
  clear hF
  rw [hf]
  clear hf
  have cbk0 := Joins.cell_of_block bk 0
  have cbk1 := Joins.cell_of_block bk 1
  have cbk2 := Joins.cell_of_block bk 2
  have cbk3 := Joins.cell_of_block bk 3
  have cbk4 := Joins.cell_of_block bk 4
  have zbk := size_of_block bk
  go_wp2_with fail
  all_goals (try (exfalso; omega))
  have hse : (SE == SE) = true := by simp
  have hte : (TE == TE) = true := by simp
  have l5 : k.ws.length ≠ 5 := h3
  refine (HP.out w2 (HK.out.later hB)).mono ?_
  rintro e w3 ⟨u1, u2, rfl, ⟨hO1, hO2⟩, hF⟩
  clear cbk0 cbk1 cbk2 cbk3 cbk4 zbk
  replace bk := (hF.block _ (size_of_block bk)).trans bk
  replace hB := below_then hB hF
  clear hF
  obtain ⟨P1, p1, rfl⟩ := own_form hO1
  obtain ⟨P2, p2, rfl⟩ := own_form hO2
  have cbk0 := Joins.cell_of_block bk 0
  have cbk1 := Joins.cell_of_block bk 1
  have cbk2 := Joins.cell_of_block bk 2
  have cbk3 := Joins.cell_of_block bk 3
  have cbk4 := Joins.cell_of_block bk 4
  have zbk := size_of_block bk
  go_wp2_with fail
  refine (HQ.out w3 (HK.out.later hB)).mono ?_
  rintro e w4 ⟨u3, u4, rfl, ⟨hO3, hO4⟩, hF⟩
  clear cbk0 cbk1 cbk2 cbk3 cbk4 zbk
  replace bk := (hF.block _ (size_of_block bk)).trans bk
  replace hO1 := own_later hO1 hF
  replace hO2 := own_later hO2 hF
  replace hB := below_then hB hF
  clear hF
  obtain ⟨P3, p3, rfl⟩ := own_form hO3
  obtain ⟨P4, p4, rfl⟩ := own_form hO4
  have b10 := heap_alloc_new w4 (.cells #[.slice P3 SS.length p3, .slice P4 SM.length p4, .int .i64 SE] 79)
  have HB := below_alloc w4 (.cells #[.slice P3 SS.length p3, .slice P4 SM.length p4, .int .i64 SE] 79)
  have cbk0 := Joins.cell_of_block ((HB.block _ (size_of_block bk)).trans bk) 0
  have cbk1 := Joins.cell_of_block ((HB.block _ (size_of_block bk)).trans bk) 1
  have cbk2 := Joins.cell_of_block ((HB.block _ (size_of_block bk)).trans bk) 2
  have cbk3 := Joins.cell_of_block ((HB.block _ (size_of_block bk)).trans bk) 3
  have cbk4 := Joins.cell_of_block ((HB.block _ (size_of_block bk)).trans bk) 4
  have zbk := size_of_block bk
  go_wp2_with fail
  generalize (w4.alloc (.cells #[.slice P3 SS.length p3, .slice P4 SM.length p4, .int .i64 SE] 79)) = w5 at b10 HB cbk0 cbk1 cbk2 cbk3 cbk4 ⊢
  replace bk := (HB.block _ (size_of_block bk)).trans bk
  replace hO1 := own_later hO1 HB
  replace hO2 := own_later hO2 HB
  replace hO3 := own_later hO3 HB
  replace hO4 := own_later hO4 HB
  replace hB := below_then hB HB
  clear HB
  refine (HR.out w5 (HK.out.later hB)).mono ?_
  rintro e w6 ⟨u5, u6, rfl, ⟨hO5, hO6⟩, hF⟩
  clear cbk0 cbk1 cbk2 cbk3 cbk4 zbk
  replace bk := (hF.block _ (size_of_block bk)).trans bk
  replace b10 := (hF.block _ (size_of_block b10)).trans b10
  replace hO1 := own_later hO1 hF
  replace hO2 := own_later hO2 hF
  replace hO3 := own_later hO3 hF
  replace hO4 := own_later hO4 hF
  replace hB := below_then hB hF
  clear hF
  obtain ⟨P5, p5, rfl⟩ := own_form hO5
  obtain ⟨P6, p6, rfl⟩ := own_form hO6
  have cbk0 := Joins.cell_of_block bk 0
  have cbk1 := Joins.cell_of_block bk 1
  have cbk2 := Joins.cell_of_block bk 2
  have cbk3 := Joins.cell_of_block bk 3
  have cbk4 := Joins.cell_of_block bk 4
  have zbk := size_of_block bk
  go_wp2_with fail
  refine (HS.out w6 (HK.out.later hB)).mono ?_
  rintro e w7 ⟨u7, u8, rfl, ⟨hO7, hO8⟩, hF⟩
  clear cbk0 cbk1 cbk2 cbk3 cbk4 zbk
  replace bk := (hF.block _ (size_of_block bk)).trans bk
  replace b10 := (hF.block _ (size_of_block b10)).trans b10
  replace hO1 := own_later hO1 hF
  replace hO2 := own_later hO2 hF
  replace hO3 := own_later hO3 hF
  replace hO4 := own_later hO4 hF
  replace hO5 := own_later hO5 hF
  replace hO6 := own_later hO6 hF
  replace hB := below_then hB hF
  clear hF
  obtain ⟨P7, p7, rfl⟩ := own_form hO7
  obtain ⟨P8, p8, rfl⟩ := own_form hO8
  have b14 := heap_alloc_new w7 (.cells #[.slice P7 TS.length p7, .slice P8 TM.length p8, .int .i64 TE] 79)
  have HB := below_alloc w7 (.cells #[.slice P7 TS.length p7, .slice P8 TM.length p8, .int .i64 TE] 79)
  go_wp2_with fail
  generalize (w7.alloc (.cells #[.slice P7 TS.length p7, .slice P8 TM.length p8, .int .i64 TE] 79)) = w8 at b14 HB  ⊢
  replace bk := (HB.block _ (size_of_block bk)).trans bk
  replace b10 := (HB.block _ (size_of_block b10)).trans b10
  replace hO1 := own_later hO1 HB
  replace hO2 := own_later hO2 HB
  replace hO3 := own_later hO3 HB
  replace hO4 := own_later hO4 HB
  replace hO5 := own_later hO5 HB
  replace hO6 := own_later hO6 HB
  replace hO7 := own_later hO7 HB
  replace hO8 := own_later hO8 HB
  replace hB := below_then hB HB
  clear HB
  refine (sanity_c _).mono ?_
  rintro e w9 ⟨rfl, hF⟩
  replace bk := (hF.block _ (size_of_block bk)).trans bk
  replace b10 := (hF.block _ (size_of_block b10)).trans b10
  replace b14 := (hF.block _ (size_of_block b14)).trans b14
  replace hO1 := own_later hO1 hF
  replace hO2 := own_later hO2 hF
  replace hO3 := own_later hO3 hF
  replace hO4 := own_later hO4 hF
  replace hO5 := own_later hO5 hF
  replace hO6 := own_later hO6 hF
  replace hO7 := own_later hO7 hF
  replace hO8 := own_later hO8 hF
  replace hB := below_then hB hF
  clear hF
  have cb100 := Joins.cell_of_block b10 0
  have cb101 := Joins.cell_of_block b10 1
  have cb102 := Joins.cell_of_block b10 2
  have zb10 := size_of_block b10
  go_wp2_with fail
  refine (sameI_t1 _ _ SS w9 (Ints.of_own hO1 (by omega)) (Ints.of_own hO3 (by omega))).mono ?_
  rintro e w10 ⟨rfl, hF⟩
  clear cb100 cb101 cb102 zb10
  replace bk := (hF.block _ (size_of_block bk)).trans bk
  replace b10 := (hF.block _ (size_of_block b10)).trans b10
  replace b14 := (hF.block _ (size_of_block b14)).trans b14
  replace hO1 := own_later hO1 hF
  replace hO2 := own_later hO2 hF
  replace hO3 := own_later hO3 hF
  replace hO4 := own_later hO4 hF
  replace hO5 := own_later hO5 hF
  replace hO6 := own_later hO6 hF
  replace hO7 := own_later hO7 hF
  replace hO8 := own_later hO8 hF
  replace hB := below_then hB hF
  clear hF
  have cb100 := Joins.cell_of_block b10 0
  have cb101 := Joins.cell_of_block b10 1
  have cb102 := Joins.cell_of_block b10 2
  have zb10 := size_of_block b10
  go_wp2_with fail
  refine (sameI_t1 _ _ SM w10 (Ints.of_own hO2 (by omega)) (Ints.of_own hO4 (by omega))).mono ?_
  rintro e w11 ⟨rfl, hF⟩
  clear cb100 cb101 cb102 zb10
  replace bk := (hF.block _ (size_of_block bk)).trans bk
  replace b10 := (hF.block _ (size_of_block b10)).trans b10
  replace b14 := (hF.block _ (size_of_block b14)).trans b14
  replace hO1 := own_later hO1 hF
  replace hO2 := own_later hO2 hF
  replace hO3 := own_later hO3 hF
  replace hO4 := own_later hO4 hF
  replace hO5 := own_later hO5 hF
  replace hO6 := own_later hO6 hF
  replace hO7 := own_later hO7 hF
  replace hO8 := own_later hO8 hF
  replace hB := below_then hB hF
  clear hF
  have cb100 := Joins.cell_of_block b10 0
  have cb101 := Joins.cell_of_block b10 1
  have cb102 := Joins.cell_of_block b10 2
  have zb10 := size_of_block b10
  have cb140 := Joins.cell_of_block b14 0
  have cb141 := Joins.cell_of_block b14 1
  have cb142 := Joins.cell_of_block b14 2
  have zb14 := size_of_block b14
  go_wp2_with fail
  refine (sameI_t1 _ _ TS w11 (Ints.of_own hO5 (by omega)) (Ints.of_own hO7 (by omega))).mono ?_
  rintro e w12 ⟨rfl, hF⟩
  clear cb100 cb101 cb102 zb10 cb140 cb141 cb142 zb14
  replace bk := (hF.block _ (size_of_block bk)).trans bk
  replace b10 := (hF.block _ (size_of_block b10)).trans b10
  replace b14 := (hF.block _ (size_of_block b14)).trans b14
  replace hO1 := own_later hO1 hF
  replace hO2 := own_later hO2 hF
  replace hO3 := own_later hO3 hF
  replace hO4 := own_later hO4 hF
  replace hO5 := own_later hO5 hF
  replace hO6 := own_later hO6 hF
  replace hO7 := own_later hO7 hF
  replace hO8 := own_later hO8 hF
  replace hB := below_then hB hF
  clear hF
  have cb140 := Joins.cell_of_block b14 0
  have cb141 := Joins.cell_of_block b14 1
  have cb142 := Joins.cell_of_block b14 2
  have zb14 := size_of_block b14
  go_wp2_with fail
  refine (sameI_t1 _ _ TM w12 (Ints.of_own hO6 (by omega)) (Ints.of_own hO8 (by omega))).mono ?_
  rintro e w13 ⟨rfl, hF⟩
  clear cb140 cb141 cb142 zb14
  replace bk := (hF.block _ (size_of_block bk)).trans bk
  replace b10 := (hF.block _ (size_of_block b10)).trans b10
  replace b14 := (hF.block _ (size_of_block b14)).trans b14
  replace hO1 := own_later hO1 hF
  replace hO2 := own_later hO2 hF
  replace hO3 := own_later hO3 hF
  replace hO4 := own_later hO4 hF
  replace hO5 := own_later hO5 hF
  replace hO6 := own_later hO6 hF
  replace hO7 := own_later hO7 hF
  replace hO8 := own_later hO8 hF
  replace hB := below_then hB hF
  clear hF
  have cb140 := Joins.cell_of_block b14 0
  have cb141 := Joins.cell_of_block b14 1
  have cb142 := Joins.cell_of_block b14 2
  have zb14 := size_of_block b14
  go_wp2_with fail
  go_ret
  exact ⟨rfl, hB⟩
set_option maxRecDepth 100000 in
set_option maxHeartbeats 8000000 in
theorem SPairs_s10 (k : Kl) (A1 A2 A3 : Option Addr) (c1 c2 c3 : Nat) (d l : Int) (w : World) (hk : Kiln w (.agg #[.int .i64 k.room, .int .i64 k.per, .slice A1 k.ls.length c1, .slice A2 k.ds.length c2, .slice A3 k.ws.length c3]) k) (hf : fewB3 k.ls.length k.ds.length k.ws.length = true) (h1 : 6 < k.ls.length) (h2 : k.ds.length ≤ 4) (h3 : k.ws.length = 5) : Calls Tryz.prog 8 #[.agg #[.int .i64 k.room, .int .i64 k.per, .slice A1 k.ls.length c1, .slice A2 k.ds.length c2, .slice A3 k.ws.length c3], .int .i64 d, .int .i64 l] w fun e w' => e = .returned (.bool true) ∧ Below w.heap.size w w' := by
  have h5 : ((k.ws.length : Int) == 5) = true := by rw [beq_iff_eq]; omega
  clear h3
  have hlen := lfew_len hf
  have HK := Lib.hid hk
  clear hk
  go_enter Tryz.func8, Tryz.ntmps8
  have bk := heap_alloc_new w (.cells #[.int .i64 k.room, .int .i64 k.per, .slice A1 k.ls.length c1, .slice A2 k.ds.length c2, .slice A3 k.ws.length c3] 26)
  have HB := below_alloc w (.cells #[.int .i64 k.room, .int .i64 k.per, .slice A1 k.ls.length c1, .slice A2 k.ds.length c2, .slice A3 k.ws.length c3] 26)
  have cbk0 := Joins.cell_of_block bk 0
  have cbk1 := Joins.cell_of_block bk 1
  have cbk2 := Joins.cell_of_block bk 2
  have cbk3 := Joins.cell_of_block bk 3
  have cbk4 := Joins.cell_of_block bk 4
  have zbk := size_of_block bk
  go_wp2_with fail
  generalize (w.alloc (.cells #[.int .i64 k.room, .int .i64 k.per, .slice A1 k.ls.length c1, .slice A2 k.ds.length c2, .slice A3 k.ws.length c3] 26)) = w1 at bk HB cbk0 cbk1 cbk2 cbk3 cbk4 zbk ⊢
  have hB := HB
  clear HB
  refine (lfew_c k.room k.per A1 A2 A3 k.ls.length c1 k.ds.length c2 k.ws.length c3 _).mono ?_
  rintro e w2 ⟨rfl, hF⟩
  clear cbk0 cbk1 cbk2 cbk3 cbk4 zbk
  replace bk := (hF.block _ (size_of_block bk)).trans bk
  replace hB := below_then hB hF
  clear hF
  rw [hf]
  clear hf
  have cbk0 := Joins.cell_of_block bk 0
  have cbk1 := Joins.cell_of_block bk 1
  have cbk2 := Joins.cell_of_block bk 2
  have cbk3 := Joins.cell_of_block bk 3
  have cbk4 := Joins.cell_of_block bk 4
  have zbk := size_of_block bk
  go_wp2_with fail
  all_goals (try (exfalso; omega))
  all_goals (refine (sanity_c _).mono ?_; rintro e w9 ⟨rfl, hF⟩; go_wp2_with fail; go_ret; exact ⟨rfl, below_then hB hF⟩)
set_option maxRecDepth 100000 in
set_option maxHeartbeats 8000000 in
theorem SPairs_s11 (k : Kl) (A1 A2 A3 : Option Addr) (c1 c2 c3 : Nat) (d l : Int) (w : World) (hk : Kiln w (.agg #[.int .i64 k.room, .int .i64 k.per, .slice A1 k.ls.length c1, .slice A2 k.ds.length c2, .slice A3 k.ws.length c3]) k) (hf : fewB3 k.ls.length k.ds.length k.ws.length = true) (h1 : 6 < k.ls.length) (h2 : 6 < k.ds.length) (h3 : k.ws.length = 5) : Calls Tryz.prog 8 #[.agg #[.int .i64 k.room, .int .i64 k.per, .slice A1 k.ls.length c1, .slice A2 k.ds.length c2, .slice A3 k.ws.length c3], .int .i64 d, .int .i64 l] w fun e w' => e = .returned (.bool true) ∧ Below w.heap.size w w' := by
  have h5 : ((k.ws.length : Int) == 5) = true := by rw [beq_iff_eq]; omega
  clear h3
  have hlen := lfew_len hf
  have HK := Lib.hid hk
  clear hk
  go_enter Tryz.func8, Tryz.ntmps8
  have bk := heap_alloc_new w (.cells #[.int .i64 k.room, .int .i64 k.per, .slice A1 k.ls.length c1, .slice A2 k.ds.length c2, .slice A3 k.ws.length c3] 26)
  have HB := below_alloc w (.cells #[.int .i64 k.room, .int .i64 k.per, .slice A1 k.ls.length c1, .slice A2 k.ds.length c2, .slice A3 k.ws.length c3] 26)
  have cbk0 := Joins.cell_of_block bk 0
  have cbk1 := Joins.cell_of_block bk 1
  have cbk2 := Joins.cell_of_block bk 2
  have cbk3 := Joins.cell_of_block bk 3
  have cbk4 := Joins.cell_of_block bk 4
  have zbk := size_of_block bk
  go_wp2_with fail
  generalize (w.alloc (.cells #[.int .i64 k.room, .int .i64 k.per, .slice A1 k.ls.length c1, .slice A2 k.ds.length c2, .slice A3 k.ws.length c3] 26)) = w1 at bk HB cbk0 cbk1 cbk2 cbk3 cbk4 zbk ⊢
  have hB := HB
  clear HB
  refine (lfew_c k.room k.per A1 A2 A3 k.ls.length c1 k.ds.length c2 k.ws.length c3 _).mono ?_
  rintro e w2 ⟨rfl, hF⟩
  clear cbk0 cbk1 cbk2 cbk3 cbk4 zbk
  replace bk := (hF.block _ (size_of_block bk)).trans bk
  replace hB := below_then hB hF
  clear hF
  rw [hf]
  clear hf
  have cbk0 := Joins.cell_of_block bk 0
  have cbk1 := Joins.cell_of_block bk 1
  have cbk2 := Joins.cell_of_block bk 2
  have cbk3 := Joins.cell_of_block bk 3
  have cbk4 := Joins.cell_of_block bk 4
  have zbk := size_of_block bk
  go_wp2_with fail
  all_goals (try (exfalso; omega))
  all_goals (refine (sanity_c _).mono ?_; rintro e w9 ⟨rfl, hF⟩; go_wp2_with fail; go_ret; exact ⟨rfl, below_then hB hF⟩)
end Go.Proofs.YtnedcclmfokdnaaGreat
