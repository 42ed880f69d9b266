/- FireDecides: what Needed and Decides tell, against Would (written by tools/gendecfire.py). -/
import Derived.Test.YtmiglaeabpaofaaZFLawK
import Derived.Test.YtmiglaeabpaofaaZFDecM
import Derived.Test.YtmiglaeabpaofaaJ22
namespace Go.Proofs.Ytmiglaeabpaofaa
open Go Go.RowKit Go.Shelf
attribute [local go_sem] Oper.semAt_some Rel RelAt RelUpon
set_option maxRecDepth 100000 in
set_option maxHeartbeats 4000000 in
theorem FireDecides_no (f : Fi) (A : Option Addr) (n cap : Nat) (p q : Spt) (need id : Int) (w : World) (h : fewB n = false) : Calls Try.prog 7 #[fiV f (.slice A n cap), sV p, sV q, .int .i64 need, .int .i64 id] w fun e w' => e = .returned (.bool true) ∧ Below w.heap.size w w' := by
  unfold fiV sV
  go_enter Try.func7, Try.ntmps7
  obtain ⟨bf, bp, bq, -, HB⟩ := three_new w (.cells #[.int .i64 f.rise, .int .i64 f.fall, .int .i64 f.up, .int .i64 f.down, .slice A n cap] 24) (.cells #[.int .i64 p.foot, .int .i64 p.hour] 42) (.cells #[.int .i64 q.foot, .int .i64 q.hour] 42)
  go_wp2_with fail
  generalize (((w.alloc (.cells #[.int .i64 f.rise, .int .i64 f.fall, .int .i64 f.up, .int .i64 f.down, .slice A n cap] 24)).alloc (.cells #[.int .i64 p.foot, .int .i64 p.hour] 42)).alloc (.cells #[.int .i64 q.foot, .int .i64 q.hour] 42)) = w1 at bf bp bq HB  ⊢
  have hB := HB
  clear HB
  refine (few_c f A n cap _).mono ?_
  rintro e w2 ⟨rfl, hF⟩
  replace bf := (hF.block _ (size_of_block bf)).trans bf
  replace bp := (hF.block _ (size_of_block bp)).trans bp
  replace bq := (hF.block _ (size_of_block bq)).trans bq
  replace hB := below_then hB hF
  clear hF
  rw [h]
  go_wp2_with fail
  refine (sanity_c _).mono ?_
  rintro e w3 ⟨rfl, hF⟩
  replace bf := (hF.block _ (size_of_block bf)).trans bf
  replace bp := (hF.block _ (size_of_block bp)).trans bp
  replace bq := (hF.block _ (size_of_block bq)).trans bq
  replace hB := below_then hB hF
  clear hF
  go_wp2_with fail
  go_ret
  exact ⟨rfl, hB⟩
set_option maxRecDepth 100000 in
set_option maxHeartbeats 4000000 in
theorem FireDecides_a (f : Fi) (A : Option Addr) (cap : Nat) (p q : Spt) (need id : Int) (w : World) (hk : Lks w w.heap.size (.slice A f.ls.length cap) f.ls) (hfew : fewB f.ls.length = true) (hlen : 24 ≤ f.ls.length) : Calls Try.prog 7 #[fiV f (.slice A f.ls.length cap), sV p, sV q, .int .i64 need, .int .i64 id] w fun e w' => e = .returned (.bool true) ∧ Below w.heap.size w w' := by
  have HK := Lib.hid hk
  clear hk
  have HL := Lib.hid hlen
  clear hlen
  unfold fiV sV
  go_enter Try.func7, Try.ntmps7
  obtain ⟨bf, bp, bq, -, HB⟩ := three_new w (.cells #[.int .i64 f.rise, .int .i64 f.fall, .int .i64 f.up, .int .i64 f.down, .slice A f.ls.length cap] 24) (.cells #[.int .i64 p.foot, .int .i64 p.hour] 42) (.cells #[.int .i64 q.foot, .int .i64 q.hour] 42)
  go_wp2_with fail
  generalize (((w.alloc (.cells #[.int .i64 f.rise, .int .i64 f.fall, .int .i64 f.up, .int .i64 f.down, .slice A f.ls.length cap] 24)).alloc (.cells #[.int .i64 p.foot, .int .i64 p.hour] 42)).alloc (.cells #[.int .i64 q.foot, .int .i64 q.hour] 42)) = w1 at bf bp bq HB  ⊢
  have hB := HB
  clear HB
  have hk := HK.out.later hB
  refine (few_c f A f.ls.length cap _).mono ?_
  rintro e w2 ⟨rfl, hF⟩
  replace bf := (hF.block _ (size_of_block bf)).trans bf
  replace bp := (hF.block _ (size_of_block bp)).trans bp
  replace bq := (hF.block _ (size_of_block bq)).trans bq
  replace hk := hk.later hF
  replace hB := below_then hB hF
  clear hF
  rw [hfew]
  have d0 : decide ((24 : Int) ≤ f.ls.length) = true := decide_eq_true (by have := HL.out; omega)
  have cbf0 := Joins.cell_of_block bf 0
  have cbf1 := Joins.cell_of_block bf 1
  have cbf2 := Joins.cell_of_block bf 2
  have cbf3 := Joins.cell_of_block bf 3
  have cbf4 := Joins.cell_of_block bf 4
  go_wp2_with fail
  refine (sanity_c _).mono ?_
  rintro e w3 ⟨rfl, hF⟩
  clear cbf0 cbf1 cbf2 cbf3 cbf4
  replace bf := (hF.block _ (size_of_block bf)).trans bf
  replace bp := (hF.block _ (size_of_block bp)).trans bp
  replace bq := (hF.block _ (size_of_block bq)).trans bq
  replace hk := hk.later hF
  replace hB := below_then hB hF
  clear hF
  go_wp2_with fail
  go_ret
  exact ⟨rfl, hB⟩
set_option maxRecDepth 100000 in
set_option maxHeartbeats 4000000 in
theorem FireDecides_b (f : Fi) (A : Option Addr) (cap : Nat) (p q : Spt) (need id : Int) (w : World) (hk : Lks w w.heap.size (.slice A f.ls.length cap) f.ls) (hfew : fewB f.ls.length = true) (hlen : f.ls.length < 24) (hE : needE f q p need ≠ 0) : Calls Try.prog 7 #[fiV f (.slice A f.ls.length cap), sV p, sV q, .int .i64 need, .int .i64 id] w fun e w' => e = .returned (.bool true) ∧ Below w.heap.size w w' := by
  have x1 := fun W h => Needed_c f (.slice A f.ls.length cap) q p need W h
  have x2 := fun v W h hv => Decides_c f (.slice A f.ls.length cap) v [q] p need W h hv
  rw [need_decide] at x2
  obtain ⟨E, hE2⟩ : ∃ e, e = needE f q p need := ⟨_, rfl⟩
  rw [← hE2] at x1 x2 hE
  clear hE2
  obtain ⟨⟨n1, n2⟩, hn⟩ : ∃ e, e = neededR f q p need := ⟨_, rfl⟩
  rw [← hn] at x1
  clear hn
  obtain ⟨D, hD⟩ : ∃ e, e = decideR f [q] p need := ⟨_, rfl⟩
  rw [← hD] at x2
  clear hD
  have d1 : (E != 0) = true := by simpa using hE
  clear hE
  simp only at x1
  have X1 := Lib.hid x1
  have X2 := Lib.hid x2
  clear x1 x2
  have HK := Lib.hid hk
  clear hk
  have HL := Lib.hid hlen
  clear hlen
  unfold fiV sV
  go_enter Try.func7, Try.ntmps7
  obtain ⟨bf, bp, bq, -, HB⟩ := three_new w (.cells #[.int .i64 f.rise, .int .i64 f.fall, .int .i64 f.up, .int .i64 f.down, .slice A f.ls.length cap] 24) (.cells #[.int .i64 p.foot, .int .i64 p.hour] 42) (.cells #[.int .i64 q.foot, .int .i64 q.hour] 42)
  go_wp2_with fail
  generalize (((w.alloc (.cells #[.int .i64 f.rise, .int .i64 f.fall, .int .i64 f.up, .int .i64 f.down, .slice A f.ls.length cap] 24)).alloc (.cells #[.int .i64 p.foot, .int .i64 p.hour] 42)).alloc (.cells #[.int .i64 q.foot, .int .i64 q.hour] 42)) = w1 at bf bp bq HB  ⊢
  have hB := HB
  clear HB
  have hk := HK.out.later hB
  refine (few_c f A f.ls.length cap _).mono ?_
  rintro e w2 ⟨rfl, hF⟩
  replace bf := (hF.block _ (size_of_block bf)).trans bf
  replace bp := (hF.block _ (size_of_block bp)).trans bp
  replace bq := (hF.block _ (size_of_block bq)).trans bq
  replace hk := hk.later hF
  replace hB := below_then hB hF
  clear hF
  rw [hfew]
  have d0 : decide ((24 : Int) ≤ f.ls.length) = false := decide_eq_false (by have := HL.out; omega)
  have cbf0 := Joins.cell_of_block bf 0
  have cbf1 := Joins.cell_of_block bf 1
  have cbf2 := Joins.cell_of_block bf 2
  have cbf3 := Joins.cell_of_block bf 3
  have cbf4 := Joins.cell_of_block bf 4
  have cbp0 := Joins.cell_of_block bp 0
  have cbp1 := Joins.cell_of_block bp 1
  have cbq0 := Joins.cell_of_block bq 0
  have cbq1 := Joins.cell_of_block bq 1
  go_wp2_with fail
  refine (X1.out w2 hk).mono ?_
  rintro e w3 ⟨rfl, hF⟩
  clear cbf0 cbf1 cbf2 cbf3 cbf4 cbp0 cbp1 cbq0 cbq1
  replace bf := (hF.block _ (size_of_block bf)).trans bf
  replace bp := (hF.block _ (size_of_block bp)).trans bp
  replace bq := (hF.block _ (size_of_block bq)).trans bq
  replace hk := hk.later hF
  replace hB := below_then hB hF
  clear hF
  have hp := builtL sC_len w3 [q] 42 #[.int .i64 q.foot, .int .i64 q.hour] w3.heap.size 1 rfl (by simp) rfl rfl
  have cbf0 := Joins.cell_of_block bf 0
  have cbf1 := Joins.cell_of_block bf 1
  have cbf2 := Joins.cell_of_block bf 2
  have cbf3 := Joins.cell_of_block bf 3
  have cbf4 := Joins.cell_of_block bf 4
  have cbp0 := Joins.cell_of_block bp 0
  have cbp1 := Joins.cell_of_block bp 1
  have cbq0 := Joins.cell_of_block bq 0
  have cbq1 := Joins.cell_of_block bq 1
  have HB := below_alloc w3 (.cells #[.int .i64 q.foot, .int .i64 q.hour] 42)
  have z1 := size_of_block bf
  have z2 := size_of_block bp
  have z3 := size_of_block bq
  have nbf0 := Joins.cell_of_block ((HB.block _ z1).trans bf) 0
  have nbf1 := Joins.cell_of_block ((HB.block _ z1).trans bf) 1
  have nbf2 := Joins.cell_of_block ((HB.block _ z1).trans bf) 2
  have nbf3 := Joins.cell_of_block ((HB.block _ z1).trans bf) 3
  have nbf4 := Joins.cell_of_block ((HB.block _ z1).trans bf) 4
  have nbp0 := Joins.cell_of_block ((HB.block _ z2).trans bp) 0
  have nbp1 := Joins.cell_of_block ((HB.block _ z2).trans bp) 1
  have nbq0 := Joins.cell_of_block ((HB.block _ z3).trans bq) 0
  have nbq1 := Joins.cell_of_block ((HB.block _ z3).trans bq) 1
  clear z1 z2 z3
  go_wp2_with fail
  clear cbf0 cbf1 cbf2 cbf3 cbf4 cbp0 cbp1 cbq0 cbq1
  generalize w3.alloc (.cells #[.int .i64 q.foot, .int .i64 q.hour] 42) = w4 at hp HB nbf0 nbf1 nbf2 nbf3 nbf4 nbp0 nbp1 nbq0 nbq1 ⊢
  replace bf := (HB.block _ (size_of_block bf)).trans bf
  replace bp := (HB.block _ (size_of_block bp)).trans bp
  replace bq := (HB.block _ (size_of_block bq)).trans bq
  replace hk := hk.later HB
  replace hB := below_then hB HB
  clear HB
  refine (X2.out _ w4 hk hp).mono ?_
  rintro e w5 ⟨s1, rfl, hs1, hF⟩
  clear nbf0 nbf1 nbf2 nbf3 nbf4 nbp0 nbp1 nbq0 nbq1
  replace bf := (hF.block _ (size_of_block bf)).trans bf
  replace bp := (hF.block _ (size_of_block bp)).trans bp
  replace bq := (hF.block _ (size_of_block bq)).trans bq
  replace hk := hk.later hF
  replace hB := below_then hB hF
  clear hF
  clear hp
  go_wp2_with fail
  refine (sanity_c _).mono ?_
  rintro e w6 ⟨rfl, hF⟩
  replace bf := (hF.block _ (size_of_block bf)).trans bf
  replace bp := (hF.block _ (size_of_block bp)).trans bp
  replace bq := (hF.block _ (size_of_block bq)).trans bq
  replace hk := hk.later hF
  replace hs1 := own_below hs1 hF
  replace hB := below_then hB hF
  clear hF
  go_wp2_with fail
  go_ret
  exact ⟨rfl, hB⟩
set_option maxRecDepth 100000 in
set_option maxHeartbeats 4000000 in
theorem FireDecides_c (f : Fi) (A : Option Addr) (cap : Nat) (p q : Spt) (need id : Int) (w : World) (hk : Lks w w.heap.size (.slice A f.ls.length cap) f.ls) (hfew : fewB f.ls.length = true) {L H i1 i2 : Int} (hlen : f.ls.length < 24) (hE : needE f q p need = 0) (hz : endsE f q = 0) (hr : endsR f q = ⟨L, H, i1, i2⟩) (hN : neededR f q p need = (0, false)) (hD : decideR f [q] p need = []) : Calls Try.prog 7 #[fiV f (.slice A f.ls.length cap), sV p, sV q, .int .i64 need, .int .i64 id] w fun e w' => e = .returned (.bool true) ∧ Below w.heap.size w w' := by
  have x1 := fun W h => Needed_c f (.slice A f.ls.length cap) q p need W h
  have x2 := fun v W h hv => Decides_c f (.slice A f.ls.length cap) v [q] p need W h hv
  rw [need_decide] at x2
  rw [hE, hN] at x1
  rw [hE, hD] at x2
  have x3 := fun W h => Ends_c f (.slice A f.ls.length cap) q W h
  rw [hz, hr] at x3
  simp only at x1 x2
  unfold bndV at x3
  simp only [List.length_nil, List.map] at x2
  clear hE hN hD hz hr
  have X1 := Lib.hid x1
  have X2 := Lib.hid x2
  have X3 := Lib.hid x3
  clear x1 x2 x3
  have HK := Lib.hid hk
  clear hk
  have HL := Lib.hid hlen
  clear hlen
  unfold fiV sV
  go_enter Try.func7, Try.ntmps7
  obtain ⟨bf, bp, bq, -, HB⟩ := three_new w (.cells #[.int .i64 f.rise, .int .i64 f.fall, .int .i64 f.up, .int .i64 f.down, .slice A f.ls.length cap] 24) (.cells #[.int .i64 p.foot, .int .i64 p.hour] 42) (.cells #[.int .i64 q.foot, .int .i64 q.hour] 42)
  go_wp2_with fail
  generalize (((w.alloc (.cells #[.int .i64 f.rise, .int .i64 f.fall, .int .i64 f.up, .int .i64 f.down, .slice A f.ls.length cap] 24)).alloc (.cells #[.int .i64 p.foot, .int .i64 p.hour] 42)).alloc (.cells #[.int .i64 q.foot, .int .i64 q.hour] 42)) = w1 at bf bp bq HB  ⊢
  have hB := HB
  clear HB
  have hk := HK.out.later hB
  refine (few_c f A f.ls.length cap _).mono ?_
  rintro e w2 ⟨rfl, hF⟩
  replace bf := (hF.block _ (size_of_block bf)).trans bf
  replace bp := (hF.block _ (size_of_block bp)).trans bp
  replace bq := (hF.block _ (size_of_block bq)).trans bq
  replace hk := hk.later hF
  replace hB := below_then hB hF
  clear hF
  rw [hfew]
  have d0 : decide ((24 : Int) ≤ f.ls.length) = false := decide_eq_false (by have := HL.out; omega)
  have cbf0 := Joins.cell_of_block bf 0
  have cbf1 := Joins.cell_of_block bf 1
  have cbf2 := Joins.cell_of_block bf 2
  have cbf3 := Joins.cell_of_block bf 3
  have cbf4 := Joins.cell_of_block bf 4
  have cbp0 := Joins.cell_of_block bp 0
  have cbp1 := Joins.cell_of_block bp 1
  have cbq0 := Joins.cell_of_block bq 0
  have cbq1 := Joins.cell_of_block bq 1
  go_wp2_with fail
  refine (X1.out w2 hk).mono ?_
  rintro e w3 ⟨rfl, hF⟩
  clear cbf0 cbf1 cbf2 cbf3 cbf4 cbp0 cbp1 cbq0 cbq1
  replace bf := (hF.block _ (size_of_block bf)).trans bf
  replace bp := (hF.block _ (size_of_block bp)).trans bp
  replace bq := (hF.block _ (size_of_block bq)).trans bq
  replace hk := hk.later hF
  replace hB := below_then hB hF
  clear hF
  have hp := builtL sC_len w3 [q] 42 #[.int .i64 q.foot, .int .i64 q.hour] w3.heap.size 1 rfl (by simp) rfl rfl
  have cbf0 := Joins.cell_of_block bf 0
  have cbf1 := Joins.cell_of_block bf 1
  have cbf2 := Joins.cell_of_block bf 2
  have cbf3 := Joins.cell_of_block bf 3
  have cbf4 := Joins.cell_of_block bf 4
  have cbp0 := Joins.cell_of_block bp 0
  have cbp1 := Joins.cell_of_block bp 1
  have cbq0 := Joins.cell_of_block bq 0
  have cbq1 := Joins.cell_of_block bq 1
  have HB := below_alloc w3 (.cells #[.int .i64 q.foot, .int .i64 q.hour] 42)
  have z1 := size_of_block bf
  have z2 := size_of_block bp
  have z3 := size_of_block bq
  have nbf0 := Joins.cell_of_block ((HB.block _ z1).trans bf) 0
  have nbf1 := Joins.cell_of_block ((HB.block _ z1).trans bf) 1
  have nbf2 := Joins.cell_of_block ((HB.block _ z1).trans bf) 2
  have nbf3 := Joins.cell_of_block ((HB.block _ z1).trans bf) 3
  have nbf4 := Joins.cell_of_block ((HB.block _ z1).trans bf) 4
  have nbp0 := Joins.cell_of_block ((HB.block _ z2).trans bp) 0
  have nbp1 := Joins.cell_of_block ((HB.block _ z2).trans bp) 1
  have nbq0 := Joins.cell_of_block ((HB.block _ z3).trans bq) 0
  have nbq1 := Joins.cell_of_block ((HB.block _ z3).trans bq) 1
  clear z1 z2 z3
  go_wp2_with fail
  clear cbf0 cbf1 cbf2 cbf3 cbf4 cbp0 cbp1 cbq0 cbq1
  generalize w3.alloc (.cells #[.int .i64 q.foot, .int .i64 q.hour] 42) = w4 at hp HB nbf0 nbf1 nbf2 nbf3 nbf4 nbp0 nbp1 nbq0 nbq1 ⊢
  replace bf := (HB.block _ (size_of_block bf)).trans bf
  replace bp := (HB.block _ (size_of_block bp)).trans bp
  replace bq := (HB.block _ (size_of_block bq)).trans bq
  replace hk := hk.later HB
  replace hB := below_then hB HB
  clear HB
  refine (X2.out _ w4 hk hp).mono ?_
  rintro e w5 ⟨s1, rfl, hs1, hF⟩
  clear nbf0 nbf1 nbf2 nbf3 nbf4 nbp0 nbp1 nbq0 nbq1
  replace bf := (hF.block _ (size_of_block bf)).trans bf
  replace bp := (hF.block _ (size_of_block bp)).trans bp
  replace bq := (hF.block _ (size_of_block bq)).trans bq
  replace hk := hk.later hF
  replace hB := below_then hB hF
  clear hF
  clear hp
  obtain ⟨As, caps, rfl⟩ := own_form hs1
  have cbf0 := Joins.cell_of_block bf 0
  have cbf1 := Joins.cell_of_block bf 1
  have cbf2 := Joins.cell_of_block bf 2
  have cbf3 := Joins.cell_of_block bf 3
  have cbf4 := Joins.cell_of_block bf 4
  have cbq0 := Joins.cell_of_block bq 0
  have cbq1 := Joins.cell_of_block bq 1
  go_wp2_with fail
  refine (X3.out w5 hk).mono ?_
  rintro e w6 ⟨rfl, hF⟩
  clear cbf0 cbf1 cbf2 cbf3 cbf4 cbq0 cbq1
  replace bf := (hF.block _ (size_of_block bf)).trans bf
  replace bp := (hF.block _ (size_of_block bp)).trans bp
  replace bq := (hF.block _ (size_of_block bq)).trans bq
  replace hk := hk.later hF
  replace hs1 := own_below hs1 hF
  replace hB := below_then hB hF
  clear hF
  have bs := heap_alloc_new w6 (.cells #[.int .i64 L, .int .i64 H, .int .i64 i1, .int .i64 i2] 38)
  have HB := below_alloc w6 (.cells #[.int .i64 L, .int .i64 H, .int .i64 i1, .int .i64 i2] 38)
  go_wp2_with fail
  generalize (w6.alloc (.cells #[.int .i64 L, .int .i64 H, .int .i64 i1, .int .i64 i2] 38)) = w7 at bs HB  ⊢
  replace bf := (HB.block _ (size_of_block bf)).trans bf
  replace bp := (HB.block _ (size_of_block bp)).trans bp
  replace bq := (HB.block _ (size_of_block bq)).trans bq
  replace hk := hk.later HB
  replace hs1 := own_below hs1 HB
  replace hB := below_then hB HB
  clear HB
  refine (sanity_c _).mono ?_
  rintro e w8 ⟨rfl, hF⟩
  replace bf := (hF.block _ (size_of_block bf)).trans bf
  replace bp := (hF.block _ (size_of_block bp)).trans bp
  replace bq := (hF.block _ (size_of_block bq)).trans bq
  replace bs := (hF.block _ (size_of_block bs)).trans bs
  replace hk := hk.later hF
  replace hs1 := own_below hs1 hF
  replace hB := below_then hB hF
  clear hF
  go_wp2_with fail
  go_ret
  exact ⟨rfl, hB⟩
set_option maxRecDepth 100000 in
set_option maxHeartbeats 4000000 in
theorem FireDecides_d (f : Fi) (A : Option Addr) (cap : Nat) (p q : Spt) (need id : Int) (w : World) (hk : Lks w w.heap.size (.slice A f.ls.length cap) f.ls) (hfew : fewB f.ls.length = true) {L H i1 i2 N : Int} {E : Int} {D : List Int} (hEE : E = 1 ∨ E = 6) (hDD : D = [] ∨ D = [0]) (hlen : f.ls.length < 24) (hE : needE f q p need = 0) (hz : endsE f q = 0) (hr : endsR f q = ⟨L, H, i1, i2⟩) (hN : neededR f q p need = (N, true)) (hD : decideR f [q] p need = D) (hW : wouldE f (lkAt id q N H) p = E) : Calls Try.prog 7 #[fiV f (.slice A f.ls.length cap), sV p, sV q, .int .i64 need, .int .i64 id] w fun e w' => e = .returned (.bool true) ∧ Below w.heap.size w w' := by
  have x1 := fun W h => Needed_c f (.slice A f.ls.length cap) q p need W h
  have x2 := fun v W h hv => Decides_c f (.slice A f.ls.length cap) v [q] p need W h hv
  rw [need_decide] at x2
  rw [hE, hN] at x1
  rw [hE, hD] at x2
  have x3 := fun W h => Ends_c f (.slice A f.ls.length cap) q W h
  rw [hz, hr] at x3
  simp only at x1 x2
  unfold bndV at x3
  have := 0
  clear hE hN hD hz hr
  have X1 := Lib.hid x1
  have X2 := Lib.hid x2
  have X3 := Lib.hid x3
  clear x1 x2 x3
  have y1 := fun W h => Would_c f (.slice A f.ls.length cap) (lkAt id q N H) p W h
  rw [hW] at y1
  obtain ⟨R1, qR1⟩ : ∃ r, r = wouldR f (lkAt id q N H) p := ⟨_, rfl⟩
  rw [← qR1] at y1
  clear hW qR1
  unfold lkV lkAt bndV at y1
  simp only at y1
  have Y1 := Lib.hid y1
  clear y1
  have HK := Lib.hid hk
  clear hk
  have HL := Lib.hid hlen
  clear hlen
  unfold fiV sV
  go_enter Try.func7, Try.ntmps7
  obtain ⟨bf, bp, bq, -, HB⟩ := three_new w (.cells #[.int .i64 f.rise, .int .i64 f.fall, .int .i64 f.up, .int .i64 f.down, .slice A f.ls.length cap] 24) (.cells #[.int .i64 p.foot, .int .i64 p.hour] 42) (.cells #[.int .i64 q.foot, .int .i64 q.hour] 42)
  go_wp2_with fail
  generalize (((w.alloc (.cells #[.int .i64 f.rise, .int .i64 f.fall, .int .i64 f.up, .int .i64 f.down, .slice A f.ls.length cap] 24)).alloc (.cells #[.int .i64 p.foot, .int .i64 p.hour] 42)).alloc (.cells #[.int .i64 q.foot, .int .i64 q.hour] 42)) = w1 at bf bp bq HB  ⊢
  have hB := HB
  clear HB
  have hk := HK.out.later hB
  refine (few_c f A f.ls.length cap _).mono ?_
  rintro e w2 ⟨rfl, hF⟩
  replace bf := (hF.block _ (size_of_block bf)).trans bf
  replace bp := (hF.block _ (size_of_block bp)).trans bp
  replace bq := (hF.block _ (size_of_block bq)).trans bq
  replace hk := hk.later hF
  replace hB := below_then hB hF
  clear hF
  rw [hfew]
  have d0 : decide ((24 : Int) ≤ f.ls.length) = false := decide_eq_false (by have := HL.out; omega)
  have cbf0 := Joins.cell_of_block bf 0
  have cbf1 := Joins.cell_of_block bf 1
  have cbf2 := Joins.cell_of_block bf 2
  have cbf3 := Joins.cell_of_block bf 3
  have cbf4 := Joins.cell_of_block bf 4
  have cbp0 := Joins.cell_of_block bp 0
  have cbp1 := Joins.cell_of_block bp 1
  have cbq0 := Joins.cell_of_block bq 0
  have cbq1 := Joins.cell_of_block bq 1
  go_wp2_with fail
  refine (X1.out w2 hk).mono ?_
  rintro e w3 ⟨rfl, hF⟩
  clear cbf0 cbf1 cbf2 cbf3 cbf4 cbp0 cbp1 cbq0 cbq1
  replace bf := (hF.block _ (size_of_block bf)).trans bf
  replace bp := (hF.block _ (size_of_block bp)).trans bp
  replace bq := (hF.block _ (size_of_block bq)).trans bq
  replace hk := hk.later hF
  replace hB := below_then hB hF
  clear hF
  have hp := builtL sC_len w3 [q] 42 #[.int .i64 q.foot, .int .i64 q.hour] w3.heap.size 1 rfl (by simp) rfl rfl
  have cbf0 := Joins.cell_of_block bf 0
  have cbf1 := Joins.cell_of_block bf 1
  have cbf2 := Joins.cell_of_block bf 2
  have cbf3 := Joins.cell_of_block bf 3
  have cbf4 := Joins.cell_of_block bf 4
  have cbp0 := Joins.cell_of_block bp 0
  have cbp1 := Joins.cell_of_block bp 1
  have cbq0 := Joins.cell_of_block bq 0
  have cbq1 := Joins.cell_of_block bq 1
  have HB := below_alloc w3 (.cells #[.int .i64 q.foot, .int .i64 q.hour] 42)
  have z1 := size_of_block bf
  have z2 := size_of_block bp
  have z3 := size_of_block bq
  have nbf0 := Joins.cell_of_block ((HB.block _ z1).trans bf) 0
  have nbf1 := Joins.cell_of_block ((HB.block _ z1).trans bf) 1
  have nbf2 := Joins.cell_of_block ((HB.block _ z1).trans bf) 2
  have nbf3 := Joins.cell_of_block ((HB.block _ z1).trans bf) 3
  have nbf4 := Joins.cell_of_block ((HB.block _ z1).trans bf) 4
  have nbp0 := Joins.cell_of_block ((HB.block _ z2).trans bp) 0
  have nbp1 := Joins.cell_of_block ((HB.block _ z2).trans bp) 1
  have nbq0 := Joins.cell_of_block ((HB.block _ z3).trans bq) 0
  have nbq1 := Joins.cell_of_block ((HB.block _ z3).trans bq) 1
  clear z1 z2 z3
  go_wp2_with fail
  clear cbf0 cbf1 cbf2 cbf3 cbf4 cbp0 cbp1 cbq0 cbq1
  generalize w3.alloc (.cells #[.int .i64 q.foot, .int .i64 q.hour] 42) = w4 at hp HB nbf0 nbf1 nbf2 nbf3 nbf4 nbp0 nbp1 nbq0 nbq1 ⊢
  replace bf := (HB.block _ (size_of_block bf)).trans bf
  replace bp := (HB.block _ (size_of_block bp)).trans bp
  replace bq := (HB.block _ (size_of_block bq)).trans bq
  replace hk := hk.later HB
  replace hB := below_then hB HB
  clear HB
  refine (X2.out _ w4 hk hp).mono ?_
  rintro e w5 ⟨s1, rfl, hs1, hF⟩
  clear nbf0 nbf1 nbf2 nbf3 nbf4 nbp0 nbp1 nbq0 nbq1
  replace bf := (hF.block _ (size_of_block bf)).trans bf
  replace bp := (hF.block _ (size_of_block bp)).trans bp
  replace bq := (hF.block _ (size_of_block bq)).trans bq
  replace hk := hk.later hF
  replace hB := below_then hB hF
  clear hF
  clear hp
  obtain ⟨As, caps, rfl⟩ := own_form hs1
  have cbf0 := Joins.cell_of_block bf 0
  have cbf1 := Joins.cell_of_block bf 1
  have cbf2 := Joins.cell_of_block bf 2
  have cbf3 := Joins.cell_of_block bf 3
  have cbf4 := Joins.cell_of_block bf 4
  have cbq0 := Joins.cell_of_block bq 0
  have cbq1 := Joins.cell_of_block bq 1
  go_wp2_with fail
  refine (X3.out w5 hk).mono ?_
  rintro e w6 ⟨rfl, hF⟩
  clear cbf0 cbf1 cbf2 cbf3 cbf4 cbq0 cbq1
  replace bf := (hF.block _ (size_of_block bf)).trans bf
  replace bp := (hF.block _ (size_of_block bp)).trans bp
  replace bq := (hF.block _ (size_of_block bq)).trans bq
  replace hk := hk.later hF
  replace hs1 := own_below hs1 hF
  replace hB := below_then hB hF
  clear hF
  have d1 : (E != 0) = true := by rcases hEE with rfl | rfl <;> rfl
  have d2 : ((E == 1) || (E == 6)) = true := by rcases hEE with rfl | rfl <;> rfl
  rcases hEE with rfl | rfl <;> rcases hDD with rfl | rfl
  · have HB0 := below_alloc w6 (.cells #[.int .i64 L, .int .i64 H, .int .i64 i1, .int .i64 i2] 38)
    have cs0 := Joins.cell_of_block (heap_alloc_new w6 (.cells #[.int .i64 L, .int .i64 H, .int .i64 i1, .int .i64 i2] 38)) 0
    have cs1 := Joins.cell_of_block (heap_alloc_new w6 (.cells #[.int .i64 L, .int .i64 H, .int .i64 i1, .int .i64 i2] 38)) 1
    have bs := heap_alloc_new w6 (.cells #[.int .i64 L, .int .i64 H, .int .i64 i1, .int .i64 i2] 38)
    have HB := below_alloc w6 (.cells #[.int .i64 L, .int .i64 H, .int .i64 i1, .int .i64 i2] 38)
    have cbf0 := Joins.cell_of_block ((HB.block _ (size_of_block bf)).trans bf) 0
    have cbf1 := Joins.cell_of_block ((HB.block _ (size_of_block bf)).trans bf) 1
    have cbf2 := Joins.cell_of_block ((HB.block _ (size_of_block bf)).trans bf) 2
    have cbf3 := Joins.cell_of_block ((HB.block _ (size_of_block bf)).trans bf) 3
    have cbf4 := Joins.cell_of_block ((HB.block _ (size_of_block bf)).trans bf) 4
    have cbp0 := Joins.cell_of_block ((HB.block _ (size_of_block bp)).trans bp) 0
    have cbp1 := Joins.cell_of_block ((HB.block _ (size_of_block bp)).trans bp) 1
    have cbq0 := Joins.cell_of_block ((HB.block _ (size_of_block bq)).trans bq) 0
    have cbq1 := Joins.cell_of_block ((HB.block _ (size_of_block bq)).trans bq) 1
    go_wp2_with fail
    generalize (w6.alloc (.cells #[.int .i64 L, .int .i64 H, .int .i64 i1, .int .i64 i2] 38)) = w7 at bs HB cbf0 cbf1 cbf2 cbf3 cbf4 cbp0 cbp1 cbq0 cbq1 ⊢
    replace bf := (HB.block _ (size_of_block bf)).trans bf
    replace bp := (HB.block _ (size_of_block bp)).trans bp
    replace bq := (HB.block _ (size_of_block bq)).trans bq
    replace hk := hk.later HB
    replace hs1 := own_below hs1 HB
    replace hB := below_then hB HB
    clear HB
    clear HB0 cs0 cs1
    refine (Y1.out w7 hk).mono ?_
    rintro e w8 ⟨rfl, hF⟩
    clear cbf0 cbf1 cbf2 cbf3 cbf4 cbp0 cbp1 cbq0 cbq1
    replace bf := (hF.block _ (size_of_block bf)).trans bf
    replace bp := (hF.block _ (size_of_block bp)).trans bp
    replace bq := (hF.block _ (size_of_block bq)).trans bq
    replace bs := (hF.block _ (size_of_block bs)).trans bs
    replace hk := hk.later hF
    replace hs1 := own_below hs1 hF
    replace hB := below_then hB hF
    clear hF
    have bx := heap_alloc_new w8 (.cells #[.int .i64 R1.lo, .int .i64 R1.hi, .int .i64 R1.low, .int .i64 R1.high] 38)
    have HB := below_alloc w8 (.cells #[.int .i64 R1.lo, .int .i64 R1.hi, .int .i64 R1.low, .int .i64 R1.high] 38)
    go_wp2_with fail
    generalize (w8.alloc (.cells #[.int .i64 R1.lo, .int .i64 R1.hi, .int .i64 R1.low, .int .i64 R1.high] 38)) = w9 at bx HB  ⊢
    replace bf := (HB.block _ (size_of_block bf)).trans bf
    replace bp := (HB.block _ (size_of_block bp)).trans bp
    replace bq := (HB.block _ (size_of_block bq)).trans bq
    replace bs := (HB.block _ (size_of_block bs)).trans bs
    replace hk := hk.later HB
    replace hs1 := own_below hs1 HB
    replace hB := below_then hB HB
    clear HB
    refine (sanity_c _).mono ?_
    rintro e w10 ⟨rfl, hF⟩
    replace bf := (hF.block _ (size_of_block bf)).trans bf
    replace bp := (hF.block _ (size_of_block bp)).trans bp
    replace bq := (hF.block _ (size_of_block bq)).trans bq
    replace bs := (hF.block _ (size_of_block bs)).trans bs
    replace bx := (hF.block _ (size_of_block bx)).trans bx
    replace hk := hk.later hF
    replace hs1 := own_below hs1 hF
    replace hB := below_then hB hF
    clear hF
    go_wp2_with fail
    go_ret
    exact ⟨rfl, hB⟩
  · have HB0 := below_alloc w6 (.cells #[.int .i64 L, .int .i64 H, .int .i64 i1, .int .i64 i2] 38)
    have cs0 := Joins.cell_of_block (heap_alloc_new w6 (.cells #[.int .i64 L, .int .i64 H, .int .i64 i1, .int .i64 i2] 38)) 0
    have cs1 := Joins.cell_of_block (heap_alloc_new w6 (.cells #[.int .i64 L, .int .i64 H, .int .i64 i1, .int .i64 i2] 38)) 1
    have bs := heap_alloc_new w6 (.cells #[.int .i64 L, .int .i64 H, .int .i64 i1, .int .i64 i2] 38)
    have HB := below_alloc w6 (.cells #[.int .i64 L, .int .i64 H, .int .i64 i1, .int .i64 i2] 38)
    have cbf0 := Joins.cell_of_block ((HB.block _ (size_of_block bf)).trans bf) 0
    have cbf1 := Joins.cell_of_block ((HB.block _ (size_of_block bf)).trans bf) 1
    have cbf2 := Joins.cell_of_block ((HB.block _ (size_of_block bf)).trans bf) 2
    have cbf3 := Joins.cell_of_block ((HB.block _ (size_of_block bf)).trans bf) 3
    have cbf4 := Joins.cell_of_block ((HB.block _ (size_of_block bf)).trans bf) 4
    have cbp0 := Joins.cell_of_block ((HB.block _ (size_of_block bp)).trans bp) 0
    have cbp1 := Joins.cell_of_block ((HB.block _ (size_of_block bp)).trans bp) 1
    have cbq0 := Joins.cell_of_block ((HB.block _ (size_of_block bq)).trans bq) 0
    have cbq1 := Joins.cell_of_block ((HB.block _ (size_of_block bq)).trans bq) 1
    go_wp2_with fail
    generalize (w6.alloc (.cells #[.int .i64 L, .int .i64 H, .int .i64 i1, .int .i64 i2] 38)) = w7 at bs HB cbf0 cbf1 cbf2 cbf3 cbf4 cbp0 cbp1 cbq0 cbq1 ⊢
    replace bf := (HB.block _ (size_of_block bf)).trans bf
    replace bp := (HB.block _ (size_of_block bp)).trans bp
    replace bq := (HB.block _ (size_of_block bq)).trans bq
    replace hk := hk.later HB
    replace hs1 := own_below hs1 HB
    replace hB := below_then hB HB
    clear HB
    clear HB0 cs0 cs1
    refine (Y1.out w7 hk).mono ?_
    rintro e w8 ⟨rfl, hF⟩
    clear cbf0 cbf1 cbf2 cbf3 cbf4 cbp0 cbp1 cbq0 cbq1
    replace bf := (hF.block _ (size_of_block bf)).trans bf
    replace bp := (hF.block _ (size_of_block bp)).trans bp
    replace bq := (hF.block _ (size_of_block bq)).trans bq
    replace bs := (hF.block _ (size_of_block bs)).trans bs
    replace hk := hk.later hF
    replace hs1 := own_below hs1 hF
    replace hB := below_then hB hF
    clear hF
    have bx := heap_alloc_new w8 (.cells #[.int .i64 R1.lo, .int .i64 R1.hi, .int .i64 R1.low, .int .i64 R1.high] 38)
    have HB := below_alloc w8 (.cells #[.int .i64 R1.lo, .int .i64 R1.hi, .int .i64 R1.low, .int .i64 R1.high] 38)
    go_wp2_with fail
    generalize (w8.alloc (.cells #[.int .i64 R1.lo, .int .i64 R1.hi, .int .i64 R1.low, .int .i64 R1.high] 38)) = w9 at bx HB  ⊢
    replace bf := (HB.block _ (size_of_block bf)).trans bf
    replace bp := (HB.block _ (size_of_block bp)).trans bp
    replace bq := (HB.block _ (size_of_block bq)).trans bq
    replace bs := (HB.block _ (size_of_block bs)).trans bs
    replace hk := hk.later HB
    replace hs1 := own_below hs1 HB
    replace hB := below_then hB HB
    clear HB
    refine (sanity_c _).mono ?_
    rintro e w10 ⟨rfl, hF⟩
    replace bf := (hF.block _ (size_of_block bf)).trans bf
    replace bp := (hF.block _ (size_of_block bp)).trans bp
    replace bq := (hF.block _ (size_of_block bq)).trans bq
    replace bs := (hF.block _ (size_of_block bs)).trans bs
    replace bx := (hF.block _ (size_of_block bx)).trans bx
    replace hk := hk.later hF
    replace hs1 := own_below hs1 hF
    replace hB := below_then hB hF
    clear hF
    go_wp2_with fail
    go_ret
    exact ⟨rfl, hB⟩
  · have HB0 := below_alloc w6 (.cells #[.int .i64 L, .int .i64 H, .int .i64 i1, .int .i64 i2] 38)
    have cs0 := Joins.cell_of_block (heap_alloc_new w6 (.cells #[.int .i64 L, .int .i64 H, .int .i64 i1, .int .i64 i2] 38)) 0
    have cs1 := Joins.cell_of_block (heap_alloc_new w6 (.cells #[.int .i64 L, .int .i64 H, .int .i64 i1, .int .i64 i2] 38)) 1
    have bs := heap_alloc_new w6 (.cells #[.int .i64 L, .int .i64 H, .int .i64 i1, .int .i64 i2] 38)
    have HB := below_alloc w6 (.cells #[.int .i64 L, .int .i64 H, .int .i64 i1, .int .i64 i2] 38)
    have cbf0 := Joins.cell_of_block ((HB.block _ (size_of_block bf)).trans bf) 0
    have cbf1 := Joins.cell_of_block ((HB.block _ (size_of_block bf)).trans bf) 1
    have cbf2 := Joins.cell_of_block ((HB.block _ (size_of_block bf)).trans bf) 2
    have cbf3 := Joins.cell_of_block ((HB.block _ (size_of_block bf)).trans bf) 3
    have cbf4 := Joins.cell_of_block ((HB.block _ (size_of_block bf)).trans bf) 4
    have cbp0 := Joins.cell_of_block ((HB.block _ (size_of_block bp)).trans bp) 0
    have cbp1 := Joins.cell_of_block ((HB.block _ (size_of_block bp)).trans bp) 1
    have cbq0 := Joins.cell_of_block ((HB.block _ (size_of_block bq)).trans bq) 0
    have cbq1 := Joins.cell_of_block ((HB.block _ (size_of_block bq)).trans bq) 1
    go_wp2_with fail
    generalize (w6.alloc (.cells #[.int .i64 L, .int .i64 H, .int .i64 i1, .int .i64 i2] 38)) = w7 at bs HB cbf0 cbf1 cbf2 cbf3 cbf4 cbp0 cbp1 cbq0 cbq1 ⊢
    replace bf := (HB.block _ (size_of_block bf)).trans bf
    replace bp := (HB.block _ (size_of_block bp)).trans bp
    replace bq := (HB.block _ (size_of_block bq)).trans bq
    replace hk := hk.later HB
    replace hs1 := own_below hs1 HB
    replace hB := below_then hB HB
    clear HB
    clear HB0 cs0 cs1
    refine (Y1.out w7 hk).mono ?_
    rintro e w8 ⟨rfl, hF⟩
    clear cbf0 cbf1 cbf2 cbf3 cbf4 cbp0 cbp1 cbq0 cbq1
    replace bf := (hF.block _ (size_of_block bf)).trans bf
    replace bp := (hF.block _ (size_of_block bp)).trans bp
    replace bq := (hF.block _ (size_of_block bq)).trans bq
    replace bs := (hF.block _ (size_of_block bs)).trans bs
    replace hk := hk.later hF
    replace hs1 := own_below hs1 hF
    replace hB := below_then hB hF
    clear hF
    have bx := heap_alloc_new w8 (.cells #[.int .i64 R1.lo, .int .i64 R1.hi, .int .i64 R1.low, .int .i64 R1.high] 38)
    have HB := below_alloc w8 (.cells #[.int .i64 R1.lo, .int .i64 R1.hi, .int .i64 R1.low, .int .i64 R1.high] 38)
    go_wp2_with fail
    generalize (w8.alloc (.cells #[.int .i64 R1.lo, .int .i64 R1.hi, .int .i64 R1.low, .int .i64 R1.high] 38)) = w9 at bx HB  ⊢
    replace bf := (HB.block _ (size_of_block bf)).trans bf
    replace bp := (HB.block _ (size_of_block bp)).trans bp
    replace bq := (HB.block _ (size_of_block bq)).trans bq
    replace bs := (HB.block _ (size_of_block bs)).trans bs
    replace hk := hk.later HB
    replace hs1 := own_below hs1 HB
    replace hB := below_then hB HB
    clear HB
    refine (sanity_c _).mono ?_
    rintro e w10 ⟨rfl, hF⟩
    replace bf := (hF.block _ (size_of_block bf)).trans bf
    replace bp := (hF.block _ (size_of_block bp)).trans bp
    replace bq := (hF.block _ (size_of_block bq)).trans bq
    replace bs := (hF.block _ (size_of_block bs)).trans bs
    replace bx := (hF.block _ (size_of_block bx)).trans bx
    replace hk := hk.later hF
    replace hs1 := own_below hs1 hF
    replace hB := below_then hB hF
    clear hF
    go_wp2_with fail
    go_ret
    exact ⟨rfl, hB⟩
  · have HB0 := below_alloc w6 (.cells #[.int .i64 L, .int .i64 H, .int .i64 i1, .int .i64 i2] 38)
    have cs0 := Joins.cell_of_block (heap_alloc_new w6 (.cells #[.int .i64 L, .int .i64 H, .int .i64 i1, .int .i64 i2] 38)) 0
    have cs1 := Joins.cell_of_block (heap_alloc_new w6 (.cells #[.int .i64 L, .int .i64 H, .int .i64 i1, .int .i64 i2] 38)) 1
    have bs := heap_alloc_new w6 (.cells #[.int .i64 L, .int .i64 H, .int .i64 i1, .int .i64 i2] 38)
    have HB := below_alloc w6 (.cells #[.int .i64 L, .int .i64 H, .int .i64 i1, .int .i64 i2] 38)
    have cbf0 := Joins.cell_of_block ((HB.block _ (size_of_block bf)).trans bf) 0
    have cbf1 := Joins.cell_of_block ((HB.block _ (size_of_block bf)).trans bf) 1
    have cbf2 := Joins.cell_of_block ((HB.block _ (size_of_block bf)).trans bf) 2
    have cbf3 := Joins.cell_of_block ((HB.block _ (size_of_block bf)).trans bf) 3
    have cbf4 := Joins.cell_of_block ((HB.block _ (size_of_block bf)).trans bf) 4
    have cbp0 := Joins.cell_of_block ((HB.block _ (size_of_block bp)).trans bp) 0
    have cbp1 := Joins.cell_of_block ((HB.block _ (size_of_block bp)).trans bp) 1
    have cbq0 := Joins.cell_of_block ((HB.block _ (size_of_block bq)).trans bq) 0
    have cbq1 := Joins.cell_of_block ((HB.block _ (size_of_block bq)).trans bq) 1
    go_wp2_with fail
    generalize (w6.alloc (.cells #[.int .i64 L, .int .i64 H, .int .i64 i1, .int .i64 i2] 38)) = w7 at bs HB cbf0 cbf1 cbf2 cbf3 cbf4 cbp0 cbp1 cbq0 cbq1 ⊢
    replace bf := (HB.block _ (size_of_block bf)).trans bf
    replace bp := (HB.block _ (size_of_block bp)).trans bp
    replace bq := (HB.block _ (size_of_block bq)).trans bq
    replace hk := hk.later HB
    replace hs1 := own_below hs1 HB
    replace hB := below_then hB HB
    clear HB
    clear HB0 cs0 cs1
    refine (Y1.out w7 hk).mono ?_
    rintro e w8 ⟨rfl, hF⟩
    clear cbf0 cbf1 cbf2 cbf3 cbf4 cbp0 cbp1 cbq0 cbq1
    replace bf := (hF.block _ (size_of_block bf)).trans bf
    replace bp := (hF.block _ (size_of_block bp)).trans bp
    replace bq := (hF.block _ (size_of_block bq)).trans bq
    replace bs := (hF.block _ (size_of_block bs)).trans bs
    replace hk := hk.later hF
    replace hs1 := own_below hs1 hF
    replace hB := below_then hB hF
    clear hF
    have bx := heap_alloc_new w8 (.cells #[.int .i64 R1.lo, .int .i64 R1.hi, .int .i64 R1.low, .int .i64 R1.high] 38)
    have HB := below_alloc w8 (.cells #[.int .i64 R1.lo, .int .i64 R1.hi, .int .i64 R1.low, .int .i64 R1.high] 38)
    go_wp2_with fail
    generalize (w8.alloc (.cells #[.int .i64 R1.lo, .int .i64 R1.hi, .int .i64 R1.low, .int .i64 R1.high] 38)) = w9 at bx HB  ⊢
    replace bf := (HB.block _ (size_of_block bf)).trans bf
    replace bp := (HB.block _ (size_of_block bp)).trans bp
    replace bq := (HB.block _ (size_of_block bq)).trans bq
    replace bs := (HB.block _ (size_of_block bs)).trans bs
    replace hk := hk.later HB
    replace hs1 := own_below hs1 HB
    replace hB := below_then hB HB
    clear HB
    refine (sanity_c _).mono ?_
    rintro e w10 ⟨rfl, hF⟩
    replace bf := (hF.block _ (size_of_block bf)).trans bf
    replace bp := (hF.block _ (size_of_block bp)).trans bp
    replace bq := (hF.block _ (size_of_block bq)).trans bq
    replace bs := (hF.block _ (size_of_block bs)).trans bs
    replace bx := (hF.block _ (size_of_block bx)).trans bx
    replace hk := hk.later hF
    replace hs1 := own_below hs1 hF
    replace hB := below_then hB hF
    clear hF
    go_wp2_with fail
    go_ret
    exact ⟨rfl, hB⟩
set_option maxRecDepth 100000 in
set_option maxHeartbeats 4000000 in
theorem FireDecides_e (f : Fi) (A : Option Addr) (cap : Nat) (p q : Spt) (need id : Int) (w : World) (hk : Lks w w.heap.size (.slice A f.ls.length cap) f.ls) (hfew : fewB f.ls.length = true) {L H i1 i2 N : Int} (hlen : f.ls.length < 24) (hE : needE f q p need = 0) (hz : endsE f q = 0) (hr : endsR f q = ⟨L, H, i1, i2⟩) (hN : neededR f q p need = (N, true)) (rN : 0 ≤ N ∧ N ≤ 1500) (hLN : L ≤ N) (hNH : N ≤ H) (hW : wouldE f (lkAt id q N H) p = 0) (hR : need ≤ (wouldR f (lkAt id q N H) p).lo) (hD : decideR f [q] p need = []) (hLN2 : N ≤ L) : Calls Try.prog 7 #[fiV f (.slice A f.ls.length cap), sV p, sV q, .int .i64 need, .int .i64 id] w fun e w' => e = .returned (.bool true) ∧ Below w.heap.size w w' := by
  have x1 := fun W h => Needed_c f (.slice A f.ls.length cap) q p need W h
  have x2 := fun v W h hv => Decides_c f (.slice A f.ls.length cap) v [q] p need W h hv
  rw [need_decide] at x2
  rw [hE, hN] at x1
  rw [hE, hD] at x2
  have x3 := fun W h => Ends_c f (.slice A f.ls.length cap) q W h
  rw [hz, hr] at x3
  simp only at x1 x2
  unfold bndV at x3
  simp only [List.length_nil, List.map] at x2
  clear hE hN hD hz hr
  have X1 := Lib.hid x1
  have X2 := Lib.hid x2
  have X3 := Lib.hid x3
  clear x1 x2 x3
  have y1 := fun W h => Would_c f (.slice A f.ls.length cap) (lkAt id q N H) p W h
  rw [hW] at y1
  obtain ⟨R1, qR1⟩ : ∃ r, r = wouldR f (lkAt id q N H) p := ⟨_, rfl⟩
  rw [← qR1] at y1 hR
  clear hW qR1
  unfold lkV lkAt bndV at y1
  simp only at y1
  have Y1 := Lib.hid y1
  clear y1
  have e1 : decide (N < L) = false := decide_eq_false (by omega)
  have e2 : decide (H < N) = false := decide_eq_false (by omega)
  have e3 : decide (R1.lo < need) = false := decide_eq_false (by omega)
  have hw1 : IntKind.i64.wrap (N - 1) = N - 1 := by rw [IntKind.wrap_i64]; omega
  have e4 : decide (L < N) = false := decide_eq_false (by omega)
  clear rN hLN hNH hR hLN2
  have HK := Lib.hid hk
  clear hk
  have HL := Lib.hid hlen
  clear hlen
  unfold fiV sV
  go_enter Try.func7, Try.ntmps7
  obtain ⟨bf, bp, bq, -, HB⟩ := three_new w (.cells #[.int .i64 f.rise, .int .i64 f.fall, .int .i64 f.up, .int .i64 f.down, .slice A f.ls.length cap] 24) (.cells #[.int .i64 p.foot, .int .i64 p.hour] 42) (.cells #[.int .i64 q.foot, .int .i64 q.hour] 42)
  go_wp2_with fail
  generalize (((w.alloc (.cells #[.int .i64 f.rise, .int .i64 f.fall, .int .i64 f.up, .int .i64 f.down, .slice A f.ls.length cap] 24)).alloc (.cells #[.int .i64 p.foot, .int .i64 p.hour] 42)).alloc (.cells #[.int .i64 q.foot, .int .i64 q.hour] 42)) = w1 at bf bp bq HB  ⊢
  have hB := HB
  clear HB
  have hk := HK.out.later hB
  refine (few_c f A f.ls.length cap _).mono ?_
  rintro e w2 ⟨rfl, hF⟩
  replace bf := (hF.block _ (size_of_block bf)).trans bf
  replace bp := (hF.block _ (size_of_block bp)).trans bp
  replace bq := (hF.block _ (size_of_block bq)).trans bq
  replace hk := hk.later hF
  replace hB := below_then hB hF
  clear hF
  rw [hfew]
  have d0 : decide ((24 : Int) ≤ f.ls.length) = false := decide_eq_false (by have := HL.out; omega)
  have cbf0 := Joins.cell_of_block bf 0
  have cbf1 := Joins.cell_of_block bf 1
  have cbf2 := Joins.cell_of_block bf 2
  have cbf3 := Joins.cell_of_block bf 3
  have cbf4 := Joins.cell_of_block bf 4
  have cbp0 := Joins.cell_of_block bp 0
  have cbp1 := Joins.cell_of_block bp 1
  have cbq0 := Joins.cell_of_block bq 0
  have cbq1 := Joins.cell_of_block bq 1
  go_wp2_with fail
  refine (X1.out w2 hk).mono ?_
  rintro e w3 ⟨rfl, hF⟩
  clear cbf0 cbf1 cbf2 cbf3 cbf4 cbp0 cbp1 cbq0 cbq1
  replace bf := (hF.block _ (size_of_block bf)).trans bf
  replace bp := (hF.block _ (size_of_block bp)).trans bp
  replace bq := (hF.block _ (size_of_block bq)).trans bq
  replace hk := hk.later hF
  replace hB := below_then hB hF
  clear hF
  have hp := builtL sC_len w3 [q] 42 #[.int .i64 q.foot, .int .i64 q.hour] w3.heap.size 1 rfl (by simp) rfl rfl
  have cbf0 := Joins.cell_of_block bf 0
  have cbf1 := Joins.cell_of_block bf 1
  have cbf2 := Joins.cell_of_block bf 2
  have cbf3 := Joins.cell_of_block bf 3
  have cbf4 := Joins.cell_of_block bf 4
  have cbp0 := Joins.cell_of_block bp 0
  have cbp1 := Joins.cell_of_block bp 1
  have cbq0 := Joins.cell_of_block bq 0
  have cbq1 := Joins.cell_of_block bq 1
  have HB := below_alloc w3 (.cells #[.int .i64 q.foot, .int .i64 q.hour] 42)
  have z1 := size_of_block bf
  have z2 := size_of_block bp
  have z3 := size_of_block bq
  have nbf0 := Joins.cell_of_block ((HB.block _ z1).trans bf) 0
  have nbf1 := Joins.cell_of_block ((HB.block _ z1).trans bf) 1
  have nbf2 := Joins.cell_of_block ((HB.block _ z1).trans bf) 2
  have nbf3 := Joins.cell_of_block ((HB.block _ z1).trans bf) 3
  have nbf4 := Joins.cell_of_block ((HB.block _ z1).trans bf) 4
  have nbp0 := Joins.cell_of_block ((HB.block _ z2).trans bp) 0
  have nbp1 := Joins.cell_of_block ((HB.block _ z2).trans bp) 1
  have nbq0 := Joins.cell_of_block ((HB.block _ z3).trans bq) 0
  have nbq1 := Joins.cell_of_block ((HB.block _ z3).trans bq) 1
  clear z1 z2 z3
  go_wp2_with fail
  clear cbf0 cbf1 cbf2 cbf3 cbf4 cbp0 cbp1 cbq0 cbq1
  generalize w3.alloc (.cells #[.int .i64 q.foot, .int .i64 q.hour] 42) = w4 at hp HB nbf0 nbf1 nbf2 nbf3 nbf4 nbp0 nbp1 nbq0 nbq1 ⊢
  replace bf := (HB.block _ (size_of_block bf)).trans bf
  replace bp := (HB.block _ (size_of_block bp)).trans bp
  replace bq := (HB.block _ (size_of_block bq)).trans bq
  replace hk := hk.later HB
  replace hB := below_then hB HB
  clear HB
  refine (X2.out _ w4 hk hp).mono ?_
  rintro e w5 ⟨s1, rfl, hs1, hF⟩
  clear nbf0 nbf1 nbf2 nbf3 nbf4 nbp0 nbp1 nbq0 nbq1
  replace bf := (hF.block _ (size_of_block bf)).trans bf
  replace bp := (hF.block _ (size_of_block bp)).trans bp
  replace bq := (hF.block _ (size_of_block bq)).trans bq
  replace hk := hk.later hF
  replace hB := below_then hB hF
  clear hF
  clear hp
  obtain ⟨As, caps, rfl⟩ := own_form hs1
  have cbf0 := Joins.cell_of_block bf 0
  have cbf1 := Joins.cell_of_block bf 1
  have cbf2 := Joins.cell_of_block bf 2
  have cbf3 := Joins.cell_of_block bf 3
  have cbf4 := Joins.cell_of_block bf 4
  have cbq0 := Joins.cell_of_block bq 0
  have cbq1 := Joins.cell_of_block bq 1
  go_wp2_with fail
  refine (X3.out w5 hk).mono ?_
  rintro e w6 ⟨rfl, hF⟩
  clear cbf0 cbf1 cbf2 cbf3 cbf4 cbq0 cbq1
  replace bf := (hF.block _ (size_of_block bf)).trans bf
  replace bp := (hF.block _ (size_of_block bp)).trans bp
  replace bq := (hF.block _ (size_of_block bq)).trans bq
  replace hk := hk.later hF
  replace hs1 := own_below hs1 hF
  replace hB := below_then hB hF
  clear hF
  have HB0 := below_alloc w6 (.cells #[.int .i64 L, .int .i64 H, .int .i64 i1, .int .i64 i2] 38)
  have cs0 := Joins.cell_of_block (heap_alloc_new w6 (.cells #[.int .i64 L, .int .i64 H, .int .i64 i1, .int .i64 i2] 38)) 0
  have cs1 := Joins.cell_of_block (heap_alloc_new w6 (.cells #[.int .i64 L, .int .i64 H, .int .i64 i1, .int .i64 i2] 38)) 1
  have bs := heap_alloc_new w6 (.cells #[.int .i64 L, .int .i64 H, .int .i64 i1, .int .i64 i2] 38)
  have HB := below_alloc w6 (.cells #[.int .i64 L, .int .i64 H, .int .i64 i1, .int .i64 i2] 38)
  have cbf0 := Joins.cell_of_block ((HB.block _ (size_of_block bf)).trans bf) 0
  have cbf1 := Joins.cell_of_block ((HB.block _ (size_of_block bf)).trans bf) 1
  have cbf2 := Joins.cell_of_block ((HB.block _ (size_of_block bf)).trans bf) 2
  have cbf3 := Joins.cell_of_block ((HB.block _ (size_of_block bf)).trans bf) 3
  have cbf4 := Joins.cell_of_block ((HB.block _ (size_of_block bf)).trans bf) 4
  have cbp0 := Joins.cell_of_block ((HB.block _ (size_of_block bp)).trans bp) 0
  have cbp1 := Joins.cell_of_block ((HB.block _ (size_of_block bp)).trans bp) 1
  have cbq0 := Joins.cell_of_block ((HB.block _ (size_of_block bq)).trans bq) 0
  have cbq1 := Joins.cell_of_block ((HB.block _ (size_of_block bq)).trans bq) 1
  go_wp2_with fail
  generalize (w6.alloc (.cells #[.int .i64 L, .int .i64 H, .int .i64 i1, .int .i64 i2] 38)) = w7 at bs HB cbf0 cbf1 cbf2 cbf3 cbf4 cbp0 cbp1 cbq0 cbq1 ⊢
  replace bf := (HB.block _ (size_of_block bf)).trans bf
  replace bp := (HB.block _ (size_of_block bp)).trans bp
  replace bq := (HB.block _ (size_of_block bq)).trans bq
  replace hk := hk.later HB
  replace hs1 := own_below hs1 HB
  replace hB := below_then hB HB
  clear HB
  clear HB0 cs0 cs1
  refine (Y1.out w7 hk).mono ?_
  rintro e w8 ⟨rfl, hF⟩
  clear cbf0 cbf1 cbf2 cbf3 cbf4 cbp0 cbp1 cbq0 cbq1
  replace bf := (hF.block _ (size_of_block bf)).trans bf
  replace bp := (hF.block _ (size_of_block bp)).trans bp
  replace bq := (hF.block _ (size_of_block bq)).trans bq
  replace bs := (hF.block _ (size_of_block bs)).trans bs
  replace hk := hk.later hF
  replace hs1 := own_below hs1 hF
  replace hB := below_then hB hF
  clear hF
  have HB0 := below_alloc w8 (.cells #[.int .i64 R1.lo, .int .i64 R1.hi, .int .i64 R1.low, .int .i64 R1.high] 38)
  have cx0 := Joins.cell_of_block (heap_alloc_new w8 (.cells #[.int .i64 R1.lo, .int .i64 R1.hi, .int .i64 R1.low, .int .i64 R1.high] 38)) 0
  have cx1 := Joins.cell_of_block (heap_alloc_new w8 (.cells #[.int .i64 R1.lo, .int .i64 R1.hi, .int .i64 R1.low, .int .i64 R1.high] 38)) 1
  have bx := heap_alloc_new w8 (.cells #[.int .i64 R1.lo, .int .i64 R1.hi, .int .i64 R1.low, .int .i64 R1.high] 38)
  have HB := below_alloc w8 (.cells #[.int .i64 R1.lo, .int .i64 R1.hi, .int .i64 R1.low, .int .i64 R1.high] 38)
  have cbs0 := Joins.cell_of_block ((HB.block _ (size_of_block bs)).trans bs) 0
  have cbs1 := Joins.cell_of_block ((HB.block _ (size_of_block bs)).trans bs) 1
  go_wp2_with fail
  generalize (w8.alloc (.cells #[.int .i64 R1.lo, .int .i64 R1.hi, .int .i64 R1.low, .int .i64 R1.high] 38)) = w9 at bx HB cbs0 cbs1 ⊢
  replace bf := (HB.block _ (size_of_block bf)).trans bf
  replace bp := (HB.block _ (size_of_block bp)).trans bp
  replace bq := (HB.block _ (size_of_block bq)).trans bq
  replace bs := (HB.block _ (size_of_block bs)).trans bs
  replace hk := hk.later HB
  replace hs1 := own_below hs1 HB
  replace hB := below_then hB HB
  clear HB
  clear HB0 cx0 cx1
  refine (sanity_c _).mono ?_
  rintro e w10 ⟨rfl, hF⟩
  clear cbs0 cbs1
  replace bf := (hF.block _ (size_of_block bf)).trans bf
  replace bp := (hF.block _ (size_of_block bp)).trans bp
  replace bq := (hF.block _ (size_of_block bq)).trans bq
  replace bs := (hF.block _ (size_of_block bs)).trans bs
  replace bx := (hF.block _ (size_of_block bx)).trans bx
  replace hk := hk.later hF
  replace hs1 := own_below hs1 hF
  replace hB := below_then hB hF
  clear hF
  go_wp2_with fail
  go_ret
  exact ⟨rfl, hB⟩
set_option maxRecDepth 100000 in
set_option maxHeartbeats 4000000 in
theorem FireDecides_f (f : Fi) (A : Option Addr) (cap : Nat) (p q : Spt) (need id : Int) (w : World) (hk : Lks w w.heap.size (.slice A f.ls.length cap) f.ls) (hfew : fewB f.ls.length = true) {L H i1 i2 N : Int} (hlen : f.ls.length < 24) (hE : needE f q p need = 0) (hz : endsE f q = 0) (hr : endsR f q = ⟨L, H, i1, i2⟩) (hN : neededR f q p need = (N, true)) (rN : 0 ≤ N ∧ N ≤ 1500) (hNH : N ≤ H) (hW : wouldE f (lkAt id q N H) p = 0) (hR : need ≤ (wouldR f (lkAt id q N H) p).lo) (hD : decideR f [q] p need = []) (hLN2 : L < N) (hW2 : wouldE f (lkAt id q (N - 1) H) p = 0) (hR2 : (wouldR f (lkAt id q (N - 1) H) p).lo < need) : Calls Try.prog 7 #[fiV f (.slice A f.ls.length cap), sV p, sV q, .int .i64 need, .int .i64 id] w fun e w' => e = .returned (.bool true) ∧ Below w.heap.size w w' := by
  have x1 := fun W h => Needed_c f (.slice A f.ls.length cap) q p need W h
  have x2 := fun v W h hv => Decides_c f (.slice A f.ls.length cap) v [q] p need W h hv
  rw [need_decide] at x2
  rw [hE, hN] at x1
  rw [hE, hD] at x2
  have x3 := fun W h => Ends_c f (.slice A f.ls.length cap) q W h
  rw [hz, hr] at x3
  simp only at x1 x2
  unfold bndV at x3
  simp only [List.length_nil, List.map] at x2
  clear hE hN hD hz hr
  have X1 := Lib.hid x1
  have X2 := Lib.hid x2
  have X3 := Lib.hid x3
  clear x1 x2 x3
  have y1 := fun W h => Would_c f (.slice A f.ls.length cap) (lkAt id q N H) p W h
  rw [hW] at y1
  obtain ⟨R1, qR1⟩ : ∃ r, r = wouldR f (lkAt id q N H) p := ⟨_, rfl⟩
  rw [← qR1] at y1 hR
  clear hW qR1
  unfold lkV lkAt bndV at y1
  simp only at y1
  have Y1 := Lib.hid y1
  clear y1
  have y2 := fun W h => Would_c f (.slice A f.ls.length cap) (lkAt id q (N - 1) H) p W h
  rw [hW2] at y2
  obtain ⟨R2, qR2⟩ : ∃ r, r = wouldR f (lkAt id q (N - 1) H) p := ⟨_, rfl⟩
  rw [← qR2] at y2 hR2
  clear hW2 qR2
  unfold lkV lkAt bndV at y2
  simp only at y2
  have Y2 := Lib.hid y2
  clear y2
  have e1 : decide (N < L) = false := decide_eq_false (by omega)
  have e2 : decide (H < N) = false := decide_eq_false (by omega)
  have e3 : decide (R1.lo < need) = false := decide_eq_false (by omega)
  have hw1 : IntKind.i64.wrap (N - 1) = N - 1 := by rw [IntKind.wrap_i64]; omega
  have e4 : decide (L < N) = true := decide_eq_true (by omega)
  have e5 : decide (need ≤ R2.lo) = false := decide_eq_false (by omega)
  clear rN hNH hR hLN2 hR2
  have HK := Lib.hid hk
  clear hk
  have HL := Lib.hid hlen
  clear hlen
  unfold fiV sV
  go_enter Try.func7, Try.ntmps7
  obtain ⟨bf, bp, bq, -, HB⟩ := three_new w (.cells #[.int .i64 f.rise, .int .i64 f.fall, .int .i64 f.up, .int .i64 f.down, .slice A f.ls.length cap] 24) (.cells #[.int .i64 p.foot, .int .i64 p.hour] 42) (.cells #[.int .i64 q.foot, .int .i64 q.hour] 42)
  go_wp2_with fail
  generalize (((w.alloc (.cells #[.int .i64 f.rise, .int .i64 f.fall, .int .i64 f.up, .int .i64 f.down, .slice A f.ls.length cap] 24)).alloc (.cells #[.int .i64 p.foot, .int .i64 p.hour] 42)).alloc (.cells #[.int .i64 q.foot, .int .i64 q.hour] 42)) = w1 at bf bp bq HB  ⊢
  have hB := HB
  clear HB
  have hk := HK.out.later hB
  refine (few_c f A f.ls.length cap _).mono ?_
  rintro e w2 ⟨rfl, hF⟩
  replace bf := (hF.block _ (size_of_block bf)).trans bf
  replace bp := (hF.block _ (size_of_block bp)).trans bp
  replace bq := (hF.block _ (size_of_block bq)).trans bq
  replace hk := hk.later hF
  replace hB := below_then hB hF
  clear hF
  rw [hfew]
  have d0 : decide ((24 : Int) ≤ f.ls.length) = false := decide_eq_false (by have := HL.out; omega)
  have cbf0 := Joins.cell_of_block bf 0
  have cbf1 := Joins.cell_of_block bf 1
  have cbf2 := Joins.cell_of_block bf 2
  have cbf3 := Joins.cell_of_block bf 3
  have cbf4 := Joins.cell_of_block bf 4
  have cbp0 := Joins.cell_of_block bp 0
  have cbp1 := Joins.cell_of_block bp 1
  have cbq0 := Joins.cell_of_block bq 0
  have cbq1 := Joins.cell_of_block bq 1
  go_wp2_with fail
  refine (X1.out w2 hk).mono ?_
  rintro e w3 ⟨rfl, hF⟩
  clear cbf0 cbf1 cbf2 cbf3 cbf4 cbp0 cbp1 cbq0 cbq1
  replace bf := (hF.block _ (size_of_block bf)).trans bf
  replace bp := (hF.block _ (size_of_block bp)).trans bp
  replace bq := (hF.block _ (size_of_block bq)).trans bq
  replace hk := hk.later hF
  replace hB := below_then hB hF
  clear hF
  have hp := builtL sC_len w3 [q] 42 #[.int .i64 q.foot, .int .i64 q.hour] w3.heap.size 1 rfl (by simp) rfl rfl
  have cbf0 := Joins.cell_of_block bf 0
  have cbf1 := Joins.cell_of_block bf 1
  have cbf2 := Joins.cell_of_block bf 2
  have cbf3 := Joins.cell_of_block bf 3
  have cbf4 := Joins.cell_of_block bf 4
  have cbp0 := Joins.cell_of_block bp 0
  have cbp1 := Joins.cell_of_block bp 1
  have cbq0 := Joins.cell_of_block bq 0
  have cbq1 := Joins.cell_of_block bq 1
  have HB := below_alloc w3 (.cells #[.int .i64 q.foot, .int .i64 q.hour] 42)
  have z1 := size_of_block bf
  have z2 := size_of_block bp
  have z3 := size_of_block bq
  have nbf0 := Joins.cell_of_block ((HB.block _ z1).trans bf) 0
  have nbf1 := Joins.cell_of_block ((HB.block _ z1).trans bf) 1
  have nbf2 := Joins.cell_of_block ((HB.block _ z1).trans bf) 2
  have nbf3 := Joins.cell_of_block ((HB.block _ z1).trans bf) 3
  have nbf4 := Joins.cell_of_block ((HB.block _ z1).trans bf) 4
  have nbp0 := Joins.cell_of_block ((HB.block _ z2).trans bp) 0
  have nbp1 := Joins.cell_of_block ((HB.block _ z2).trans bp) 1
  have nbq0 := Joins.cell_of_block ((HB.block _ z3).trans bq) 0
  have nbq1 := Joins.cell_of_block ((HB.block _ z3).trans bq) 1
  clear z1 z2 z3
  go_wp2_with fail
  clear cbf0 cbf1 cbf2 cbf3 cbf4 cbp0 cbp1 cbq0 cbq1
  generalize w3.alloc (.cells #[.int .i64 q.foot, .int .i64 q.hour] 42) = w4 at hp HB nbf0 nbf1 nbf2 nbf3 nbf4 nbp0 nbp1 nbq0 nbq1 ⊢
  replace bf := (HB.block _ (size_of_block bf)).trans bf
  replace bp := (HB.block _ (size_of_block bp)).trans bp
  replace bq := (HB.block _ (size_of_block bq)).trans bq
  replace hk := hk.later HB
  replace hB := below_then hB HB
  clear HB
  refine (X2.out _ w4 hk hp).mono ?_
  rintro e w5 ⟨s1, rfl, hs1, hF⟩
  clear nbf0 nbf1 nbf2 nbf3 nbf4 nbp0 nbp1 nbq0 nbq1
  replace bf := (hF.block _ (size_of_block bf)).trans bf
  replace bp := (hF.block _ (size_of_block bp)).trans bp
  replace bq := (hF.block _ (size_of_block bq)).trans bq
  replace hk := hk.later hF
  replace hB := below_then hB hF
  clear hF
  clear hp
  obtain ⟨As, caps, rfl⟩ := own_form hs1
  have cbf0 := Joins.cell_of_block bf 0
  have cbf1 := Joins.cell_of_block bf 1
  have cbf2 := Joins.cell_of_block bf 2
  have cbf3 := Joins.cell_of_block bf 3
  have cbf4 := Joins.cell_of_block bf 4
  have cbq0 := Joins.cell_of_block bq 0
  have cbq1 := Joins.cell_of_block bq 1
  go_wp2_with fail
  refine (X3.out w5 hk).mono ?_
  rintro e w6 ⟨rfl, hF⟩
  clear cbf0 cbf1 cbf2 cbf3 cbf4 cbq0 cbq1
  replace bf := (hF.block _ (size_of_block bf)).trans bf
  replace bp := (hF.block _ (size_of_block bp)).trans bp
  replace bq := (hF.block _ (size_of_block bq)).trans bq
  replace hk := hk.later hF
  replace hs1 := own_below hs1 hF
  replace hB := below_then hB hF
  clear hF
  have HB0 := below_alloc w6 (.cells #[.int .i64 L, .int .i64 H, .int .i64 i1, .int .i64 i2] 38)
  have cs0 := Joins.cell_of_block (heap_alloc_new w6 (.cells #[.int .i64 L, .int .i64 H, .int .i64 i1, .int .i64 i2] 38)) 0
  have cs1 := Joins.cell_of_block (heap_alloc_new w6 (.cells #[.int .i64 L, .int .i64 H, .int .i64 i1, .int .i64 i2] 38)) 1
  have bs := heap_alloc_new w6 (.cells #[.int .i64 L, .int .i64 H, .int .i64 i1, .int .i64 i2] 38)
  have HB := below_alloc w6 (.cells #[.int .i64 L, .int .i64 H, .int .i64 i1, .int .i64 i2] 38)
  have cbf0 := Joins.cell_of_block ((HB.block _ (size_of_block bf)).trans bf) 0
  have cbf1 := Joins.cell_of_block ((HB.block _ (size_of_block bf)).trans bf) 1
  have cbf2 := Joins.cell_of_block ((HB.block _ (size_of_block bf)).trans bf) 2
  have cbf3 := Joins.cell_of_block ((HB.block _ (size_of_block bf)).trans bf) 3
  have cbf4 := Joins.cell_of_block ((HB.block _ (size_of_block bf)).trans bf) 4
  have cbp0 := Joins.cell_of_block ((HB.block _ (size_of_block bp)).trans bp) 0
  have cbp1 := Joins.cell_of_block ((HB.block _ (size_of_block bp)).trans bp) 1
  have cbq0 := Joins.cell_of_block ((HB.block _ (size_of_block bq)).trans bq) 0
  have cbq1 := Joins.cell_of_block ((HB.block _ (size_of_block bq)).trans bq) 1
  go_wp2_with fail
  generalize (w6.alloc (.cells #[.int .i64 L, .int .i64 H, .int .i64 i1, .int .i64 i2] 38)) = w7 at bs HB cbf0 cbf1 cbf2 cbf3 cbf4 cbp0 cbp1 cbq0 cbq1 ⊢
  replace bf := (HB.block _ (size_of_block bf)).trans bf
  replace bp := (HB.block _ (size_of_block bp)).trans bp
  replace bq := (HB.block _ (size_of_block bq)).trans bq
  replace hk := hk.later HB
  replace hs1 := own_below hs1 HB
  replace hB := below_then hB HB
  clear HB
  clear HB0 cs0 cs1
  refine (Y1.out w7 hk).mono ?_
  rintro e w8 ⟨rfl, hF⟩
  clear cbf0 cbf1 cbf2 cbf3 cbf4 cbp0 cbp1 cbq0 cbq1
  replace bf := (hF.block _ (size_of_block bf)).trans bf
  replace bp := (hF.block _ (size_of_block bp)).trans bp
  replace bq := (hF.block _ (size_of_block bq)).trans bq
  replace bs := (hF.block _ (size_of_block bs)).trans bs
  replace hk := hk.later hF
  replace hs1 := own_below hs1 hF
  replace hB := below_then hB hF
  clear hF
  have HB0 := below_alloc w8 (.cells #[.int .i64 R1.lo, .int .i64 R1.hi, .int .i64 R1.low, .int .i64 R1.high] 38)
  have cx0 := Joins.cell_of_block (heap_alloc_new w8 (.cells #[.int .i64 R1.lo, .int .i64 R1.hi, .int .i64 R1.low, .int .i64 R1.high] 38)) 0
  have cx1 := Joins.cell_of_block (heap_alloc_new w8 (.cells #[.int .i64 R1.lo, .int .i64 R1.hi, .int .i64 R1.low, .int .i64 R1.high] 38)) 1
  have bx := heap_alloc_new w8 (.cells #[.int .i64 R1.lo, .int .i64 R1.hi, .int .i64 R1.low, .int .i64 R1.high] 38)
  have HB := below_alloc w8 (.cells #[.int .i64 R1.lo, .int .i64 R1.hi, .int .i64 R1.low, .int .i64 R1.high] 38)
  have cbf0 := Joins.cell_of_block ((HB.block _ (size_of_block bf)).trans bf) 0
  have cbf1 := Joins.cell_of_block ((HB.block _ (size_of_block bf)).trans bf) 1
  have cbf2 := Joins.cell_of_block ((HB.block _ (size_of_block bf)).trans bf) 2
  have cbf3 := Joins.cell_of_block ((HB.block _ (size_of_block bf)).trans bf) 3
  have cbf4 := Joins.cell_of_block ((HB.block _ (size_of_block bf)).trans bf) 4
  have cbp0 := Joins.cell_of_block ((HB.block _ (size_of_block bp)).trans bp) 0
  have cbp1 := Joins.cell_of_block ((HB.block _ (size_of_block bp)).trans bp) 1
  have cbq0 := Joins.cell_of_block ((HB.block _ (size_of_block bq)).trans bq) 0
  have cbq1 := Joins.cell_of_block ((HB.block _ (size_of_block bq)).trans bq) 1
  have cbs0 := Joins.cell_of_block ((HB.block _ (size_of_block bs)).trans bs) 0
  have cbs1 := Joins.cell_of_block ((HB.block _ (size_of_block bs)).trans bs) 1
  go_wp2_with fail
  generalize (w8.alloc (.cells #[.int .i64 R1.lo, .int .i64 R1.hi, .int .i64 R1.low, .int .i64 R1.high] 38)) = w9 at bx HB cbf0 cbf1 cbf2 cbf3 cbf4 cbp0 cbp1 cbq0 cbq1 cbs0 cbs1 ⊢
  replace bf := (HB.block _ (size_of_block bf)).trans bf
  replace bp := (HB.block _ (size_of_block bp)).trans bp
  replace bq := (HB.block _ (size_of_block bq)).trans bq
  replace bs := (HB.block _ (size_of_block bs)).trans bs
  replace hk := hk.later HB
  replace hs1 := own_below hs1 HB
  replace hB := below_then hB HB
  clear HB
  clear HB0 cx0 cx1
  refine (Y2.out w9 hk).mono ?_
  rintro e w10 ⟨rfl, hF⟩
  clear cbf0 cbf1 cbf2 cbf3 cbf4 cbp0 cbp1 cbq0 cbq1 cbs0 cbs1
  replace bf := (hF.block _ (size_of_block bf)).trans bf
  replace bp := (hF.block _ (size_of_block bp)).trans bp
  replace bq := (hF.block _ (size_of_block bq)).trans bq
  replace bs := (hF.block _ (size_of_block bs)).trans bs
  replace bx := (hF.block _ (size_of_block bx)).trans bx
  replace hk := hk.later hF
  replace hs1 := own_below hs1 hF
  replace hB := below_then hB hF
  clear hF
  have HB0 := below_alloc w10 (.cells #[.int .i64 R2.lo, .int .i64 R2.hi, .int .i64 R2.low, .int .i64 R2.high] 38)
  have cx0 := Joins.cell_of_block (heap_alloc_new w10 (.cells #[.int .i64 R2.lo, .int .i64 R2.hi, .int .i64 R2.low, .int .i64 R2.high] 38)) 0
  have cx1 := Joins.cell_of_block (heap_alloc_new w10 (.cells #[.int .i64 R2.lo, .int .i64 R2.hi, .int .i64 R2.low, .int .i64 R2.high] 38)) 1
  have by_ := heap_alloc_new w10 (.cells #[.int .i64 R2.lo, .int .i64 R2.hi, .int .i64 R2.low, .int .i64 R2.high] 38)
  have HB := below_alloc w10 (.cells #[.int .i64 R2.lo, .int .i64 R2.hi, .int .i64 R2.low, .int .i64 R2.high] 38)
  have cbs0 := Joins.cell_of_block ((HB.block _ (size_of_block bs)).trans bs) 0
  have cbs1 := Joins.cell_of_block ((HB.block _ (size_of_block bs)).trans bs) 1
  go_wp2_with fail
  generalize (w10.alloc (.cells #[.int .i64 R2.lo, .int .i64 R2.hi, .int .i64 R2.low, .int .i64 R2.high] 38)) = w11 at by_ HB cbs0 cbs1 ⊢
  replace bf := (HB.block _ (size_of_block bf)).trans bf
  replace bp := (HB.block _ (size_of_block bp)).trans bp
  replace bq := (HB.block _ (size_of_block bq)).trans bq
  replace bs := (HB.block _ (size_of_block bs)).trans bs
  replace bx := (HB.block _ (size_of_block bx)).trans bx
  replace hk := hk.later HB
  replace hs1 := own_below hs1 HB
  replace hB := below_then hB HB
  clear HB
  clear HB0 cx0 cx1
  refine (sanity_c _).mono ?_
  rintro e w12 ⟨rfl, hF⟩
  clear cbs0 cbs1
  replace bf := (hF.block _ (size_of_block bf)).trans bf
  replace bp := (hF.block _ (size_of_block bp)).trans bp
  replace bq := (hF.block _ (size_of_block bq)).trans bq
  replace bs := (hF.block _ (size_of_block bs)).trans bs
  replace bx := (hF.block _ (size_of_block bx)).trans bx
  replace by_ := (hF.block _ (size_of_block by_)).trans by_
  replace hk := hk.later hF
  replace hs1 := own_below hs1 hF
  replace hB := below_then hB hF
  clear hF
  go_wp2_with fail
  go_ret
  exact ⟨rfl, hB⟩
set_option maxRecDepth 100000 in
set_option maxHeartbeats 4000000 in
theorem FireDecides_g (f : Fi) (A : Option Addr) (cap : Nat) (p q : Spt) (need id : Int) (w : World) (hk : Lks w w.heap.size (.slice A f.ls.length cap) f.ls) (hfew : fewB f.ls.length = true) {L H i1 i2 N : Int} (hlen : f.ls.length < 24) (hE : needE f q p need = 0) (hz : endsE f q = 0) (hr : endsR f q = ⟨L, H, i1, i2⟩) (hN : neededR f q p need = (N, true)) (rN : 0 ≤ N ∧ N ≤ 1500) (hNH : N ≤ H) (hW : wouldE f (lkAt id q N H) p = 0) (hR : need ≤ (wouldR f (lkAt id q N H) p).lo) (hD : decideR f [q] p need = [0]) (hLN2 : L < N) (hW2 : wouldE f (lkAt id q (N - 1) H) p = 0) (hR2 : (wouldR f (lkAt id q (N - 1) H) p).lo < need) (hW3 : wouldE f (lkAt id q L L) p = 0) (hR3 : (wouldR f (lkAt id q L L) p).hi < need) : Calls Try.prog 7 #[fiV f (.slice A f.ls.length cap), sV p, sV q, .int .i64 need, .int .i64 id] w fun e w' => e = .returned (.bool true) ∧ Below w.heap.size w w' := by
  have x1 := fun W h => Needed_c f (.slice A f.ls.length cap) q p need W h
  have x2 := fun v W h hv => Decides_c f (.slice A f.ls.length cap) v [q] p need W h hv
  rw [need_decide] at x2
  rw [hE, hN] at x1
  rw [hE, hD] at x2
  have x3 := fun W h => Ends_c f (.slice A f.ls.length cap) q W h
  rw [hz, hr] at x3
  simp only at x1 x2
  unfold bndV at x3
  simp only [List.length_nil, List.length_cons, List.map, Nat.zero_add] at x2
  clear hE hN hD hz hr
  have X1 := Lib.hid x1
  have X2 := Lib.hid x2
  have X3 := Lib.hid x3
  clear x1 x2 x3
  have y1 := fun W h => Would_c f (.slice A f.ls.length cap) (lkAt id q N H) p W h
  rw [hW] at y1
  obtain ⟨R1, qR1⟩ : ∃ r, r = wouldR f (lkAt id q N H) p := ⟨_, rfl⟩
  rw [← qR1] at y1 hR
  clear hW qR1
  unfold lkV lkAt bndV at y1
  simp only at y1
  have Y1 := Lib.hid y1
  clear y1
  have y2 := fun W h => Would_c f (.slice A f.ls.length cap) (lkAt id q (N - 1) H) p W h
  rw [hW2] at y2
  obtain ⟨R2, qR2⟩ : ∃ r, r = wouldR f (lkAt id q (N - 1) H) p := ⟨_, rfl⟩
  rw [← qR2] at y2 hR2
  clear hW2 qR2
  unfold lkV lkAt bndV at y2
  simp only at y2
  have Y2 := Lib.hid y2
  clear y2
  have y3 := fun W h => Would_c f (.slice A f.ls.length cap) (lkAt id q L L) p W h
  rw [hW3] at y3
  obtain ⟨R3, qR3⟩ : ∃ r, r = wouldR f (lkAt id q L L) p := ⟨_, rfl⟩
  rw [← qR3] at y3 hR3
  clear hW3 qR3
  unfold lkV lkAt bndV at y3
  simp only at y3
  have Y3 := Lib.hid y3
  clear y3
  have e1 : decide (N < L) = false := decide_eq_false (by omega)
  have e2 : decide (H < N) = false := decide_eq_false (by omega)
  have e3 : decide (R1.lo < need) = false := decide_eq_false (by omega)
  have hw1 : IntKind.i64.wrap (N - 1) = N - 1 := by rw [IntKind.wrap_i64]; omega
  have e4 : decide (L < N) = true := decide_eq_true (by omega)
  have e5 : decide (need ≤ R2.lo) = false := decide_eq_false (by omega)
  have e6 : decide (R3.hi < need) = true := decide_eq_true (by omega)
  clear rN hNH hR hLN2 hR2 hR3
  have HK := Lib.hid hk
  clear hk
  have HL := Lib.hid hlen
  clear hlen
  unfold fiV sV
  go_enter Try.func7, Try.ntmps7
  obtain ⟨bf, bp, bq, -, HB⟩ := three_new w (.cells #[.int .i64 f.rise, .int .i64 f.fall, .int .i64 f.up, .int .i64 f.down, .slice A f.ls.length cap] 24) (.cells #[.int .i64 p.foot, .int .i64 p.hour] 42) (.cells #[.int .i64 q.foot, .int .i64 q.hour] 42)
  go_wp2_with fail
  generalize (((w.alloc (.cells #[.int .i64 f.rise, .int .i64 f.fall, .int .i64 f.up, .int .i64 f.down, .slice A f.ls.length cap] 24)).alloc (.cells #[.int .i64 p.foot, .int .i64 p.hour] 42)).alloc (.cells #[.int .i64 q.foot, .int .i64 q.hour] 42)) = w1 at bf bp bq HB  ⊢
  have hB := HB
  clear HB
  have hk := HK.out.later hB
  refine (few_c f A f.ls.length cap _).mono ?_
  rintro e w2 ⟨rfl, hF⟩
  replace bf := (hF.block _ (size_of_block bf)).trans bf
  replace bp := (hF.block _ (size_of_block bp)).trans bp
  replace bq := (hF.block _ (size_of_block bq)).trans bq
  replace hk := hk.later hF
  replace hB := below_then hB hF
  clear hF
  rw [hfew]
  have d0 : decide ((24 : Int) ≤ f.ls.length) = false := decide_eq_false (by have := HL.out; omega)
  have cbf0 := Joins.cell_of_block bf 0
  have cbf1 := Joins.cell_of_block bf 1
  have cbf2 := Joins.cell_of_block bf 2
  have cbf3 := Joins.cell_of_block bf 3
  have cbf4 := Joins.cell_of_block bf 4
  have cbp0 := Joins.cell_of_block bp 0
  have cbp1 := Joins.cell_of_block bp 1
  have cbq0 := Joins.cell_of_block bq 0
  have cbq1 := Joins.cell_of_block bq 1
  go_wp2_with fail
  refine (X1.out w2 hk).mono ?_
  rintro e w3 ⟨rfl, hF⟩
  clear cbf0 cbf1 cbf2 cbf3 cbf4 cbp0 cbp1 cbq0 cbq1
  replace bf := (hF.block _ (size_of_block bf)).trans bf
  replace bp := (hF.block _ (size_of_block bp)).trans bp
  replace bq := (hF.block _ (size_of_block bq)).trans bq
  replace hk := hk.later hF
  replace hB := below_then hB hF
  clear hF
  have hp := builtL sC_len w3 [q] 42 #[.int .i64 q.foot, .int .i64 q.hour] w3.heap.size 1 rfl (by simp) rfl rfl
  have cbf0 := Joins.cell_of_block bf 0
  have cbf1 := Joins.cell_of_block bf 1
  have cbf2 := Joins.cell_of_block bf 2
  have cbf3 := Joins.cell_of_block bf 3
  have cbf4 := Joins.cell_of_block bf 4
  have cbp0 := Joins.cell_of_block bp 0
  have cbp1 := Joins.cell_of_block bp 1
  have cbq0 := Joins.cell_of_block bq 0
  have cbq1 := Joins.cell_of_block bq 1
  have HB := below_alloc w3 (.cells #[.int .i64 q.foot, .int .i64 q.hour] 42)
  have z1 := size_of_block bf
  have z2 := size_of_block bp
  have z3 := size_of_block bq
  have nbf0 := Joins.cell_of_block ((HB.block _ z1).trans bf) 0
  have nbf1 := Joins.cell_of_block ((HB.block _ z1).trans bf) 1
  have nbf2 := Joins.cell_of_block ((HB.block _ z1).trans bf) 2
  have nbf3 := Joins.cell_of_block ((HB.block _ z1).trans bf) 3
  have nbf4 := Joins.cell_of_block ((HB.block _ z1).trans bf) 4
  have nbp0 := Joins.cell_of_block ((HB.block _ z2).trans bp) 0
  have nbp1 := Joins.cell_of_block ((HB.block _ z2).trans bp) 1
  have nbq0 := Joins.cell_of_block ((HB.block _ z3).trans bq) 0
  have nbq1 := Joins.cell_of_block ((HB.block _ z3).trans bq) 1
  clear z1 z2 z3
  go_wp2_with fail
  clear cbf0 cbf1 cbf2 cbf3 cbf4 cbp0 cbp1 cbq0 cbq1
  generalize w3.alloc (.cells #[.int .i64 q.foot, .int .i64 q.hour] 42) = w4 at hp HB nbf0 nbf1 nbf2 nbf3 nbf4 nbp0 nbp1 nbq0 nbq1 ⊢
  replace bf := (HB.block _ (size_of_block bf)).trans bf
  replace bp := (HB.block _ (size_of_block bp)).trans bp
  replace bq := (HB.block _ (size_of_block bq)).trans bq
  replace hk := hk.later HB
  replace hB := below_then hB HB
  clear HB
  refine (X2.out _ w4 hk hp).mono ?_
  rintro e w5 ⟨s1, rfl, hs1, hF⟩
  clear nbf0 nbf1 nbf2 nbf3 nbf4 nbp0 nbp1 nbq0 nbq1
  replace bf := (hF.block _ (size_of_block bf)).trans bf
  replace bp := (hF.block _ (size_of_block bp)).trans bp
  replace bq := (hF.block _ (size_of_block bq)).trans bq
  replace hk := hk.later hF
  replace hB := below_then hB hF
  clear hF
  clear hp
  obtain ⟨g0, caps, rfl, -, -⟩ := hs1.form (by omega)
  have cbf0 := Joins.cell_of_block bf 0
  have cbf1 := Joins.cell_of_block bf 1
  have cbf2 := Joins.cell_of_block bf 2
  have cbf3 := Joins.cell_of_block bf 3
  have cbf4 := Joins.cell_of_block bf 4
  have cbq0 := Joins.cell_of_block bq 0
  have cbq1 := Joins.cell_of_block bq 1
  go_wp2_with fail
  refine (X3.out w5 hk).mono ?_
  rintro e w6 ⟨rfl, hF⟩
  clear cbf0 cbf1 cbf2 cbf3 cbf4 cbq0 cbq1
  replace bf := (hF.block _ (size_of_block bf)).trans bf
  replace bp := (hF.block _ (size_of_block bp)).trans bp
  replace bq := (hF.block _ (size_of_block bq)).trans bq
  replace hk := hk.later hF
  replace hs1 := own_below hs1 hF
  replace hB := below_then hB hF
  clear hF
  have HB0 := below_alloc w6 (.cells #[.int .i64 L, .int .i64 H, .int .i64 i1, .int .i64 i2] 38)
  have cs0 := Joins.cell_of_block (heap_alloc_new w6 (.cells #[.int .i64 L, .int .i64 H, .int .i64 i1, .int .i64 i2] 38)) 0
  have cs1 := Joins.cell_of_block (heap_alloc_new w6 (.cells #[.int .i64 L, .int .i64 H, .int .i64 i1, .int .i64 i2] 38)) 1
  have bs := heap_alloc_new w6 (.cells #[.int .i64 L, .int .i64 H, .int .i64 i1, .int .i64 i2] 38)
  have HB := below_alloc w6 (.cells #[.int .i64 L, .int .i64 H, .int .i64 i1, .int .i64 i2] 38)
  have cbf0 := Joins.cell_of_block ((HB.block _ (size_of_block bf)).trans bf) 0
  have cbf1 := Joins.cell_of_block ((HB.block _ (size_of_block bf)).trans bf) 1
  have cbf2 := Joins.cell_of_block ((HB.block _ (size_of_block bf)).trans bf) 2
  have cbf3 := Joins.cell_of_block ((HB.block _ (size_of_block bf)).trans bf) 3
  have cbf4 := Joins.cell_of_block ((HB.block _ (size_of_block bf)).trans bf) 4
  have cbp0 := Joins.cell_of_block ((HB.block _ (size_of_block bp)).trans bp) 0
  have cbp1 := Joins.cell_of_block ((HB.block _ (size_of_block bp)).trans bp) 1
  have cbq0 := Joins.cell_of_block ((HB.block _ (size_of_block bq)).trans bq) 0
  have cbq1 := Joins.cell_of_block ((HB.block _ (size_of_block bq)).trans bq) 1
  go_wp2_with fail
  generalize (w6.alloc (.cells #[.int .i64 L, .int .i64 H, .int .i64 i1, .int .i64 i2] 38)) = w7 at bs HB cbf0 cbf1 cbf2 cbf3 cbf4 cbp0 cbp1 cbq0 cbq1 ⊢
  replace bf := (HB.block _ (size_of_block bf)).trans bf
  replace bp := (HB.block _ (size_of_block bp)).trans bp
  replace bq := (HB.block _ (size_of_block bq)).trans bq
  replace hk := hk.later HB
  replace hs1 := own_below hs1 HB
  replace hB := below_then hB HB
  clear HB
  clear HB0 cs0 cs1
  refine (Y1.out w7 hk).mono ?_
  rintro e w8 ⟨rfl, hF⟩
  clear cbf0 cbf1 cbf2 cbf3 cbf4 cbp0 cbp1 cbq0 cbq1
  replace bf := (hF.block _ (size_of_block bf)).trans bf
  replace bp := (hF.block _ (size_of_block bp)).trans bp
  replace bq := (hF.block _ (size_of_block bq)).trans bq
  replace bs := (hF.block _ (size_of_block bs)).trans bs
  replace hk := hk.later hF
  replace hs1 := own_below hs1 hF
  replace hB := below_then hB hF
  clear hF
  have HB0 := below_alloc w8 (.cells #[.int .i64 R1.lo, .int .i64 R1.hi, .int .i64 R1.low, .int .i64 R1.high] 38)
  have cx0 := Joins.cell_of_block (heap_alloc_new w8 (.cells #[.int .i64 R1.lo, .int .i64 R1.hi, .int .i64 R1.low, .int .i64 R1.high] 38)) 0
  have cx1 := Joins.cell_of_block (heap_alloc_new w8 (.cells #[.int .i64 R1.lo, .int .i64 R1.hi, .int .i64 R1.low, .int .i64 R1.high] 38)) 1
  have bx := heap_alloc_new w8 (.cells #[.int .i64 R1.lo, .int .i64 R1.hi, .int .i64 R1.low, .int .i64 R1.high] 38)
  have HB := below_alloc w8 (.cells #[.int .i64 R1.lo, .int .i64 R1.hi, .int .i64 R1.low, .int .i64 R1.high] 38)
  have cbf0 := Joins.cell_of_block ((HB.block _ (size_of_block bf)).trans bf) 0
  have cbf1 := Joins.cell_of_block ((HB.block _ (size_of_block bf)).trans bf) 1
  have cbf2 := Joins.cell_of_block ((HB.block _ (size_of_block bf)).trans bf) 2
  have cbf3 := Joins.cell_of_block ((HB.block _ (size_of_block bf)).trans bf) 3
  have cbf4 := Joins.cell_of_block ((HB.block _ (size_of_block bf)).trans bf) 4
  have cbp0 := Joins.cell_of_block ((HB.block _ (size_of_block bp)).trans bp) 0
  have cbp1 := Joins.cell_of_block ((HB.block _ (size_of_block bp)).trans bp) 1
  have cbq0 := Joins.cell_of_block ((HB.block _ (size_of_block bq)).trans bq) 0
  have cbq1 := Joins.cell_of_block ((HB.block _ (size_of_block bq)).trans bq) 1
  have cbs0 := Joins.cell_of_block ((HB.block _ (size_of_block bs)).trans bs) 0
  have cbs1 := Joins.cell_of_block ((HB.block _ (size_of_block bs)).trans bs) 1
  go_wp2_with fail
  generalize (w8.alloc (.cells #[.int .i64 R1.lo, .int .i64 R1.hi, .int .i64 R1.low, .int .i64 R1.high] 38)) = w9 at bx HB cbf0 cbf1 cbf2 cbf3 cbf4 cbp0 cbp1 cbq0 cbq1 cbs0 cbs1 ⊢
  replace bf := (HB.block _ (size_of_block bf)).trans bf
  replace bp := (HB.block _ (size_of_block bp)).trans bp
  replace bq := (HB.block _ (size_of_block bq)).trans bq
  replace bs := (HB.block _ (size_of_block bs)).trans bs
  replace hk := hk.later HB
  replace hs1 := own_below hs1 HB
  replace hB := below_then hB HB
  clear HB
  clear HB0 cx0 cx1
  refine (Y2.out w9 hk).mono ?_
  rintro e w10 ⟨rfl, hF⟩
  clear cbf0 cbf1 cbf2 cbf3 cbf4 cbp0 cbp1 cbq0 cbq1 cbs0 cbs1
  replace bf := (hF.block _ (size_of_block bf)).trans bf
  replace bp := (hF.block _ (size_of_block bp)).trans bp
  replace bq := (hF.block _ (size_of_block bq)).trans bq
  replace bs := (hF.block _ (size_of_block bs)).trans bs
  replace bx := (hF.block _ (size_of_block bx)).trans bx
  replace hk := hk.later hF
  replace hs1 := own_below hs1 hF
  replace hB := below_then hB hF
  clear hF
  have HB0 := below_alloc w10 (.cells #[.int .i64 R2.lo, .int .i64 R2.hi, .int .i64 R2.low, .int .i64 R2.high] 38)
  have cx0 := Joins.cell_of_block (heap_alloc_new w10 (.cells #[.int .i64 R2.lo, .int .i64 R2.hi, .int .i64 R2.low, .int .i64 R2.high] 38)) 0
  have cx1 := Joins.cell_of_block (heap_alloc_new w10 (.cells #[.int .i64 R2.lo, .int .i64 R2.hi, .int .i64 R2.low, .int .i64 R2.high] 38)) 1
  have by_ := heap_alloc_new w10 (.cells #[.int .i64 R2.lo, .int .i64 R2.hi, .int .i64 R2.low, .int .i64 R2.high] 38)
  have HB := below_alloc w10 (.cells #[.int .i64 R2.lo, .int .i64 R2.hi, .int .i64 R2.low, .int .i64 R2.high] 38)
  have cbf0 := Joins.cell_of_block ((HB.block _ (size_of_block bf)).trans bf) 0
  have cbf1 := Joins.cell_of_block ((HB.block _ (size_of_block bf)).trans bf) 1
  have cbf2 := Joins.cell_of_block ((HB.block _ (size_of_block bf)).trans bf) 2
  have cbf3 := Joins.cell_of_block ((HB.block _ (size_of_block bf)).trans bf) 3
  have cbf4 := Joins.cell_of_block ((HB.block _ (size_of_block bf)).trans bf) 4
  have cbp0 := Joins.cell_of_block ((HB.block _ (size_of_block bp)).trans bp) 0
  have cbp1 := Joins.cell_of_block ((HB.block _ (size_of_block bp)).trans bp) 1
  have cbq0 := Joins.cell_of_block ((HB.block _ (size_of_block bq)).trans bq) 0
  have cbq1 := Joins.cell_of_block ((HB.block _ (size_of_block bq)).trans bq) 1
  have cbs0 := Joins.cell_of_block ((HB.block _ (size_of_block bs)).trans bs) 0
  have cbs1 := Joins.cell_of_block ((HB.block _ (size_of_block bs)).trans bs) 1
  go_wp2_with fail
  generalize (w10.alloc (.cells #[.int .i64 R2.lo, .int .i64 R2.hi, .int .i64 R2.low, .int .i64 R2.high] 38)) = w11 at by_ HB cbf0 cbf1 cbf2 cbf3 cbf4 cbp0 cbp1 cbq0 cbq1 cbs0 cbs1 ⊢
  replace bf := (HB.block _ (size_of_block bf)).trans bf
  replace bp := (HB.block _ (size_of_block bp)).trans bp
  replace bq := (HB.block _ (size_of_block bq)).trans bq
  replace bs := (HB.block _ (size_of_block bs)).trans bs
  replace bx := (HB.block _ (size_of_block bx)).trans bx
  replace hk := hk.later HB
  replace hs1 := own_below hs1 HB
  replace hB := below_then hB HB
  clear HB
  clear HB0 cx0 cx1
  refine (Y3.out w11 hk).mono ?_
  rintro e w12 ⟨rfl, hF⟩
  clear cbf0 cbf1 cbf2 cbf3 cbf4 cbp0 cbp1 cbq0 cbq1 cbs0 cbs1
  replace bf := (hF.block _ (size_of_block bf)).trans bf
  replace bp := (hF.block _ (size_of_block bp)).trans bp
  replace bq := (hF.block _ (size_of_block bq)).trans bq
  replace bs := (hF.block _ (size_of_block bs)).trans bs
  replace bx := (hF.block _ (size_of_block bx)).trans bx
  replace by_ := (hF.block _ (size_of_block by_)).trans by_
  replace hk := hk.later hF
  replace hs1 := own_below hs1 hF
  replace hB := below_then hB hF
  clear hF
  have HB0 := below_alloc w12 (.cells #[.int .i64 R3.lo, .int .i64 R3.hi, .int .i64 R3.low, .int .i64 R3.high] 38)
  have cx0 := Joins.cell_of_block (heap_alloc_new w12 (.cells #[.int .i64 R3.lo, .int .i64 R3.hi, .int .i64 R3.low, .int .i64 R3.high] 38)) 0
  have cx1 := Joins.cell_of_block (heap_alloc_new w12 (.cells #[.int .i64 R3.lo, .int .i64 R3.hi, .int .i64 R3.low, .int .i64 R3.high] 38)) 1
  have bz := heap_alloc_new w12 (.cells #[.int .i64 R3.lo, .int .i64 R3.hi, .int .i64 R3.low, .int .i64 R3.high] 38)
  have HB := below_alloc w12 (.cells #[.int .i64 R3.lo, .int .i64 R3.hi, .int .i64 R3.low, .int .i64 R3.high] 38)
  go_wp2_with fail
  generalize (w12.alloc (.cells #[.int .i64 R3.lo, .int .i64 R3.hi, .int .i64 R3.low, .int .i64 R3.high] 38)) = w13 at bz HB  ⊢
  replace bf := (HB.block _ (size_of_block bf)).trans bf
  replace bp := (HB.block _ (size_of_block bp)).trans bp
  replace bq := (HB.block _ (size_of_block bq)).trans bq
  replace bs := (HB.block _ (size_of_block bs)).trans bs
  replace bx := (HB.block _ (size_of_block bx)).trans bx
  replace by_ := (HB.block _ (size_of_block by_)).trans by_
  replace hk := hk.later HB
  replace hs1 := own_below hs1 HB
  replace hB := below_then hB HB
  clear HB
  clear HB0 cx0 cx1
  refine (sanity_c _).mono ?_
  rintro e w14 ⟨rfl, hF⟩
  replace bf := (hF.block _ (size_of_block bf)).trans bf
  replace bp := (hF.block _ (size_of_block bp)).trans bp
  replace bq := (hF.block _ (size_of_block bq)).trans bq
  replace bs := (hF.block _ (size_of_block bs)).trans bs
  replace bx := (hF.block _ (size_of_block bx)).trans bx
  replace by_ := (hF.block _ (size_of_block by_)).trans by_
  replace bz := (hF.block _ (size_of_block bz)).trans bz
  replace hk := hk.later hF
  replace hs1 := own_below hs1 hF
  replace hB := below_then hB hF
  clear hF
  have hi1 := Ints.of_own (l := [0]) hs1 (by simp)
  obtain ⟨A9, cap9, hA9, -, -, hat⟩ := hi1.open_
  cases hA9
  obtain ⟨b9, o9, x9, h9, hb9, hx9, d9⟩ := hat 0 (by simp)
  cases h9
  obtain rfl : x9 = 0 := by simpa using hx9.symm
  simp only [Nat.add_zero] at d9
  have cbs0 := Joins.cell_of_block bs 0
  have cbs1 := Joins.cell_of_block bs 1
  have cbz0 := Joins.cell_of_block bz 0
  have cbz1 := Joins.cell_of_block bz 1
  go_wp2_with fail
  go_ret
  exact ⟨rfl, hB⟩
theorem FireDecides_w (f : Fi) (vl : Value) (p q : Spt) (need id : Int) (w : World) (hk : Lks w w.heap.size vl f.ls) : Calls Try.prog 7 #[fiV f vl, sV p, sV q, .int .i64 need, .int .i64 id] w fun e w' => e = .returned (.bool true) ∧ Below w.heap.size w w' := by
  obtain ⟨A, cap, rfl⟩ := hk.form
  cases hfew : fewB f.ls.length with
  | false => exact FireDecides_no f A _ cap p q need id w hfew
  | true =>
  by_cases hlen : f.ls.length < 24
  · by_cases hE : needE f q p need = 0
    · obtain ⟨hz, hr, hx⟩ := dec_math id hlen hE
      rcases hx with ⟨h1, h2⟩ | ⟨N, ⟨g1, g2, g3, g4, g5⟩⟩
      · exact FireDecides_c f A cap p q need id w hk hfew hlen hE hz hr h1 h2
      · rcases g5 with g5 | ⟨g5, g6, g7, g8⟩
        · have hDD : decideR f [q] p need = [] ∨ decideR f [q] p need = [0] := by
            rw [decide_one f q p need hE]; cases decideB f f.ls q p need <;> simp
          exact FireDecides_d f A cap p q need id w hk hfew g5 hDD hlen hE hz hr g1 rfl rfl
        · by_cases hgt : endLo f f.ls q < N
          · obtain ⟨k1, k2⟩ := g7 hgt
            rcases g8 with g8 | ⟨g8, _, k3, k4⟩
            · exact FireDecides_f f A cap p q need id w hk hfew hlen hE hz hr g1 g4 g3 g5 g6 g8 hgt k1 k2
            · exact FireDecides_g f A cap p q need id w hk hfew hlen hE hz hr g1 g4 g3 g5 g6 g8 hgt k1 k2 k3 k4
          · rcases g8 with g8 | ⟨_, k, _⟩
            · exact FireDecides_e f A cap p q need id w hk hfew hlen hE hz hr g1 g4 g2 g3 g5 g6 g8 (by omega)
            · exact absurd k hgt
    · exact FireDecides_b f A cap p q need id w hk hfew hlen hE
  · exact FireDecides_a f A cap p q need id w hk hfew (by omega)
end Go.Proofs.Ytmiglaeabpaofaa
