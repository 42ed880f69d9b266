/- FireChecks: Check, Far, Clash, CheckClash, Suspects and Without return what the reference returns (written by tools/genfchecks.py). -/
import Derived.Test.YtjpoacffnpgjdaaGreatJ21
import Derived.Test.YtjpoacffnpgjdaaGreatZFRefAD
import Derived.Test.YtjpoacffnpgjdaaGreatZFRefAG
import Derived.Test.YtjpoacffnpgjdaaGreatJ19
import Derived.Test.YtjpoacffnpgjdaaGreatJ17
import Derived.Test.YtjpoacffnpgjdaaGreatJ30
import Derived.Test.YtjpoacffnpgjdaaGreatJ20
namespace Go.Proofs.YtjpoacffnpgjdaaGreat
open Go Go.RowKit Go.Shelf
attribute [local go_sem] Oper.semAt_some Rel RelAt RelUpon
theorem susp_len9 (f : Fi) : (suspR f).length ≤ f.ls.length := by
  unfold suspR suspL
  split
  · split
    · simp
    · exact idsI_len _ _
  · simp
theorem sameInts_t (u v : Value) (l : List Int) (w : World) (hu : Ints w w.heap.size u l) (hv : Ints w w.heap.size v l) :
    Calls Tryz.prog 22 #[u, v] w fun e w' => e = .returned (.bool true) ∧ Below w.heap.size w w' := by
  have h := sameInts_c u v l l w hu hv
  rwa [decide_eq_true rfl] at h
set_option maxRecDepth 100000 in
set_option maxHeartbeats 8000000 in
theorem FireChecks_no (f : Fi) (A : Option Addr) (n cap : Nat) (p q : Spt) (a b : Int) (v1 : Value) (w : World) (h : fewB n = false) : Calls Tryz.prog 3 #[fiV f (.slice A n cap), sV p, sV q, .int .i64 a, .int .i64 b, v1] w fun e w' => e = .returned (.bool true) ∧ Below w.heap.size w w' := by
  unfold fiV sV
  go_enter Tryz.func3, Tryz.ntmps3
  obtain ⟨bf, bp, bq, -, HB⟩ := three_new w (.cells #[.int .i64 f.rise, .int .i64 f.fall, .int .i64 f.up, .int .i64 f.down, .slice A n cap] 24) (.cells #[.int .i64 p.foot, .int .i64 p.hour] 26) (.cells #[.int .i64 q.foot, .int .i64 q.hour] 26)
  go_wp2_with fail
  generalize (((w.alloc (.cells #[.int .i64 f.rise, .int .i64 f.fall, .int .i64 f.up, .int .i64 f.down, .slice A n cap] 24)).alloc (.cells #[.int .i64 p.foot, .int .i64 p.hour] 26)).alloc (.cells #[.int .i64 q.foot, .int .i64 q.hour] 26)) = w1 at bf bp bq HB  ⊢
  have hB := HB
  clear HB
  refine (few_c f A n cap _).mono ?_
  rintro e w2 ⟨rfl, hF⟩
  replace bf := (hF.block _ (size_of_block bf)).trans bf
  replace bp := (hF.block _ (size_of_block bp)).trans bp
  replace bq := (hF.block _ (size_of_block bq)).trans bq
  replace hB := below_then hB hF
  clear hF
  rw [h]
  go_wp2_with fail
  refine (sanity_c _).mono ?_
  rintro e w3 ⟨rfl, hF⟩
  replace bf := (hF.block _ (size_of_block bf)).trans bf
  replace bp := (hF.block _ (size_of_block bp)).trans bp
  replace bq := (hF.block _ (size_of_block bq)).trans bq
  replace hB := below_then hB hF
  clear hF
  go_wp2_with fail
  go_ret
  exact ⟨rfl, hB⟩
set_option maxRecDepth 100000 in
set_option maxHeartbeats 8000000 in
theorem FireChecks_l1 (f : Fi) (A : Option Addr) (cap : Nat) (p q : Spt) (a b : Int) (A1 : Option Addr) (n1 cap1 : Nat) (h1 : 40 < n1) (w : World) (hfew : fewB f.ls.length = true) : Calls Tryz.prog 3 #[fiV f (.slice A f.ls.length cap), sV p, sV q, .int .i64 a, .int .i64 b, (.slice A1 n1 cap1)] w fun e w' => e = .returned (.bool true) ∧ Below w.heap.size w w' := by
  have d1 : decide ((n1 : Int) > 40) = true := decide_eq_true (by omega)
  unfold fiV sV
  go_enter Tryz.func3, Tryz.ntmps3
  obtain ⟨bf, bp, bq, -, HB⟩ := three_new w (.cells #[.int .i64 f.rise, .int .i64 f.fall, .int .i64 f.up, .int .i64 f.down, .slice A f.ls.length cap] 24) (.cells #[.int .i64 p.foot, .int .i64 p.hour] 26) (.cells #[.int .i64 q.foot, .int .i64 q.hour] 26)
  go_wp2_with fail
  generalize (((w.alloc (.cells #[.int .i64 f.rise, .int .i64 f.fall, .int .i64 f.up, .int .i64 f.down, .slice A f.ls.length cap] 24)).alloc (.cells #[.int .i64 p.foot, .int .i64 p.hour] 26)).alloc (.cells #[.int .i64 q.foot, .int .i64 q.hour] 26)) = w1 at bf bp bq HB  ⊢
  have hB := HB
  clear HB
  refine (few_c f A f.ls.length cap _).mono ?_
  rintro e w2 ⟨rfl, hF⟩
  replace bf := (hF.block _ (size_of_block bf)).trans bf
  replace bp := (hF.block _ (size_of_block bp)).trans bp
  replace bq := (hF.block _ (size_of_block bq)).trans bq
  replace hB := below_then hB hF
  clear hF
  rw [hfew]
  go_wp2_with fail
  refine (sanity_c _).mono ?_
  rintro e w3 ⟨rfl, hF⟩
  replace bf := (hF.block _ (size_of_block bf)).trans bf
  replace bp := (hF.block _ (size_of_block bp)).trans bp
  replace bq := (hF.block _ (size_of_block bq)).trans bq
  replace hB := below_then hB hF
  clear hF
  go_wp2_with fail
  go_ret
  exact ⟨rfl, hB⟩
set_option maxRecDepth 100000 in
set_option maxHeartbeats 8000000 in
theorem FireChecks_a (f : Fi) (A A1 : Option Addr) (cap cap1 : Nat) (p q : Spt) (a b : Int) (l : List Int) (w : World) (hk : Lks w w.heap.size (.slice A f.ls.length cap) f.ls) (hl : Ints w w.heap.size (.slice A1 l.length cap1) l) (hfew : fewB f.ls.length = true) (h1 : l.length ≤ 40) : Calls Tryz.prog 3 #[fiV f (.slice A f.ls.length cap), sV p, sV q, .int .i64 a, .int .i64 b, (.slice A1 l.length cap1)] w fun e w' => e = .returned (.bool true) ∧ Below w.heap.size w w' := by
  have x1 := fun W h => Far_c f (.slice A f.ls.length cap) p q W h
  have x2 := fun W h => FarR_c f (.slice A f.ls.length cap) p q W h
  have x3 := fun W h => Clash_c f (.slice A f.ls.length cap) W h
  have x4 := fun W h => ClashR_c f (.slice A f.ls.length cap) W h
  have x5 := fun W h => Suspects_c f (.slice A f.ls.length cap) W h
  have x6 := fun W h => SuspectsR_c f (.slice A f.ls.length cap) W h
  have x7 := fun W h hi => Without_c f (.slice A f.ls.length cap) (.slice A1 l.length cap1) l W h hi
  have x8 := fun W h hi => WithoutR_c f (.slice A f.ls.length cap) (.slice A1 l.length cap1) l W h hi
  have x9 := fun W h => Check_c f (fiV f (.slice A f.ls.length cap)) W ⟨_, rfl, h⟩
  have x10 := fun W h => CheckR_c f (.slice A f.ls.length cap) W h
  have x11 := fun W h => CheckClash_c f (.slice A f.ls.length cap) a b W h
  have x12 := fun W h => CheckClashR_c f (.slice A f.ls.length cap) a b W h
  have r1 := susp_len9 f
  obtain ⟨_, _, _, _, hn9, _⟩ := Lks.open_ hk
  have d9 : decide ((l.length : Int) > 40) = false := decide_eq_false (by omega)
  generalize farR f p q = D at x1 x2
  generalize farE f p q = E1 at x1 x2
  obtain ⟨⟨ca, cb, ci⟩, hC⟩ : ∃ c, c = clashR f := ⟨_, rfl⟩
  rw [← hC] at x3 x4
  clear hC
  dsimp only at x3 x4
  generalize fireI f = E at x3 x4 x5 x6 x7 x8 x9 x10
  generalize suspR f = L1 at x5 x6 r1
  generalize withoutR f l = G at x7 x8
  generalize chkClashI f a b = C at x11 x12
  unfold sV at x1 x2
  unfold fiV at x7 x9 x10 x11 x12
  have HR1 := Lib.hid r1
  have HN9 := Lib.hid hn9
  clear r1 hn9
  have X1 := Lib.hid x1
  have X2 := Lib.hid x2
  have X3 := Lib.hid x3
  have X4 := Lib.hid x4
  have X5 := Lib.hid x5
  have X6 := Lib.hid x6
  have X7 := Lib.hid x7
  have X8 := Lib.hid x8
  have X9 := Lib.hid x9
  have X10 := Lib.hid x10
  have X11 := Lib.hid x11
  have X12 := Lib.hid x12
  clear x1 x2 x3 x4 x5 x6 x7 x8 x9 x10 x11 x12
  have HK := Lib.hid hk
  have HL := Lib.hid hl
  clear hk hl
  unfold fiV sV
  go_enter Tryz.func3, Tryz.ntmps3
  obtain ⟨bf, bp, bq, -, HB⟩ := three_new w (.cells #[.int .i64 f.rise, .int .i64 f.fall, .int .i64 f.up, .int .i64 f.down, .slice A f.ls.length cap] 24) (.cells #[.int .i64 p.foot, .int .i64 p.hour] 26) (.cells #[.int .i64 q.foot, .int .i64 q.hour] 26)
  go_wp2_with fail
  generalize (((w.alloc (.cells #[.int .i64 f.rise, .int .i64 f.fall, .int .i64 f.up, .int .i64 f.down, .slice A f.ls.length cap] 24)).alloc (.cells #[.int .i64 p.foot, .int .i64 p.hour] 26)).alloc (.cells #[.int .i64 q.foot, .int .i64 q.hour] 26)) = w1 at bf bp bq HB  ⊢
  have hB := HB
  clear HB
  have hk := HK.out.later hB
  have hl := HL.out.later hB
  refine (few_c f A f.ls.length cap _).mono ?_
  rintro e w2 ⟨rfl, hF⟩
  replace bf := (hF.block _ (size_of_block bf)).trans bf
  replace bp := (hF.block _ (size_of_block bp)).trans bp
  replace bq := (hF.block _ (size_of_block bq)).trans bq
  replace hk := hk.later hF
  replace hl := hl.later hF
  replace hB := below_then hB hF
  clear hF
  rw [hfew]
  have cbf0 := Joins.cell_of_block bf 0
  have cbf1 := Joins.cell_of_block bf 1
  have cbf2 := Joins.cell_of_block bf 2
  have cbf3 := Joins.cell_of_block bf 3
  have cbf4 := Joins.cell_of_block bf 4
  have cbp0 := Joins.cell_of_block bp 0
  have cbp1 := Joins.cell_of_block bp 1
  have cbq0 := Joins.cell_of_block bq 0
  have cbq1 := Joins.cell_of_block bq 1
  go_wp2_with fail
  refine (X1.out w2 hk).mono ?_
  rintro e w3 ⟨rfl, hF⟩
  clear cbf0 cbf1 cbf2 cbf3 cbf4 cbp0 cbp1 cbq0 cbq1
  replace bf := (hF.block _ (size_of_block bf)).trans bf
  replace bp := (hF.block _ (size_of_block bp)).trans bp
  replace bq := (hF.block _ (size_of_block bq)).trans bq
  replace hk := hk.later hF
  replace hl := hl.later hF
  replace hB := below_then hB hF
  clear hF
  have cbf0 := Joins.cell_of_block bf 0
  have cbf1 := Joins.cell_of_block bf 1
  have cbf2 := Joins.cell_of_block bf 2
  have cbf3 := Joins.cell_of_block bf 3
  have cbf4 := Joins.cell_of_block bf 4
  have cbp0 := Joins.cell_of_block bp 0
  have cbp1 := Joins.cell_of_block bp 1
  have cbq0 := Joins.cell_of_block bq 0
  have cbq1 := Joins.cell_of_block bq 1
  go_wp2_with fail
  refine (X2.out w3 hk).mono ?_
  rintro e w4 ⟨rfl, hF⟩
  clear cbf0 cbf1 cbf2 cbf3 cbf4 cbp0 cbp1 cbq0 cbq1
  replace bf := (hF.block _ (size_of_block bf)).trans bf
  replace bp := (hF.block _ (size_of_block bp)).trans bp
  replace bq := (hF.block _ (size_of_block bq)).trans bq
  replace hk := hk.later hF
  replace hl := hl.later hF
  replace hB := below_then hB hF
  clear hF
  have cbf0 := Joins.cell_of_block bf 0
  have cbf1 := Joins.cell_of_block bf 1
  have cbf2 := Joins.cell_of_block bf 2
  have cbf3 := Joins.cell_of_block bf 3
  have cbf4 := Joins.cell_of_block bf 4
  go_wp2_with fail
  refine (X3.out w4 hk).mono ?_
  rintro e w5 ⟨rfl, hF⟩
  clear cbf0 cbf1 cbf2 cbf3 cbf4
  replace bf := (hF.block _ (size_of_block bf)).trans bf
  replace bp := (hF.block _ (size_of_block bp)).trans bp
  replace bq := (hF.block _ (size_of_block bq)).trans bq
  replace hk := hk.later hF
  replace hl := hl.later hF
  replace hB := below_then hB hF
  clear hF
  have cbf0 := Joins.cell_of_block bf 0
  have cbf1 := Joins.cell_of_block bf 1
  have cbf2 := Joins.cell_of_block bf 2
  have cbf3 := Joins.cell_of_block bf 3
  have cbf4 := Joins.cell_of_block bf 4
  go_wp2_with fail
  refine (X4.out w5 hk).mono ?_
  rintro e w6 ⟨rfl, hF⟩
  clear cbf0 cbf1 cbf2 cbf3 cbf4
  replace bf := (hF.block _ (size_of_block bf)).trans bf
  replace bp := (hF.block _ (size_of_block bp)).trans bp
  replace bq := (hF.block _ (size_of_block bq)).trans bq
  replace hk := hk.later hF
  replace hl := hl.later hF
  replace hB := below_then hB hF
  clear hF
  have bc := heap_alloc_new w6 (.cells #[.int .i64 ca, .int .i64 cb, .bool ci, .int .i64 E] 36)
  have HB := below_alloc w6 (.cells #[.int .i64 ca, .int .i64 cb, .bool ci, .int .i64 E] 36)
  have cbf0 := Joins.cell_of_block ((HB.block _ (size_of_block bf)).trans bf) 0
  have cbf1 := Joins.cell_of_block ((HB.block _ (size_of_block bf)).trans bf) 1
  have cbf2 := Joins.cell_of_block ((HB.block _ (size_of_block bf)).trans bf) 2
  have cbf3 := Joins.cell_of_block ((HB.block _ (size_of_block bf)).trans bf) 3
  have cbf4 := Joins.cell_of_block ((HB.block _ (size_of_block bf)).trans bf) 4
  go_wp2_with fail
  generalize (w6.alloc (.cells #[.int .i64 ca, .int .i64 cb, .bool ci, .int .i64 E] 36)) = w7 at bc HB cbf0 cbf1 cbf2 cbf3 cbf4 ⊢
  replace bf := (HB.block _ (size_of_block bf)).trans bf
  replace bp := (HB.block _ (size_of_block bp)).trans bp
  replace bq := (HB.block _ (size_of_block bq)).trans bq
  replace hk := hk.later HB
  replace hl := hl.later HB
  replace hB := below_then hB HB
  clear HB
  refine (X5.out w7 hk).mono ?_
  rintro e w8 ⟨s1, rfl, hs1, hF⟩
  clear cbf0 cbf1 cbf2 cbf3 cbf4
  replace bf := (hF.block _ (size_of_block bf)).trans bf
  replace bp := (hF.block _ (size_of_block bp)).trans bp
  replace bq := (hF.block _ (size_of_block bq)).trans bq
  replace bc := (hF.block _ (size_of_block bc)).trans bc
  replace hk := hk.later hF
  replace hl := hl.later hF
  replace hB := below_then hB hF
  clear hF
  have hsa := Ints.of_own hs1 (by have := HR1.out; have := HN9.out; omega)
  clear hs1
  obtain ⟨Ahsa, chsa, rfl⟩ := Sl.form hsa
  have cbf0 := Joins.cell_of_block bf 0
  have cbf1 := Joins.cell_of_block bf 1
  have cbf2 := Joins.cell_of_block bf 2
  have cbf3 := Joins.cell_of_block bf 3
  have cbf4 := Joins.cell_of_block bf 4
  go_wp2_with fail
  refine (X6.out w8 hk).mono ?_
  rintro e w9 ⟨s2, rfl, hs2, hF⟩
  clear cbf0 cbf1 cbf2 cbf3 cbf4
  replace bf := (hF.block _ (size_of_block bf)).trans bf
  replace bp := (hF.block _ (size_of_block bp)).trans bp
  replace bq := (hF.block _ (size_of_block bq)).trans bq
  replace bc := (hF.block _ (size_of_block bc)).trans bc
  replace hk := hk.later hF
  replace hl := hl.later hF
  replace hsa := hsa.later hF
  replace hB := below_then hB hF
  clear hF
  have hsb := Ints.of_own hs2 (by have := HR1.out; have := HN9.out; omega)
  clear hs2
  obtain ⟨Ahsb, chsb, rfl⟩ := Sl.form hsb
  have bw := heap_alloc_new w9 (.cells #[.slice Ahsb L1.length chsb, .int .i64 E] 41)
  have HB := below_alloc w9 (.cells #[.slice Ahsb L1.length chsb, .int .i64 E] 41)
  have cbf0 := Joins.cell_of_block ((HB.block _ (size_of_block bf)).trans bf) 0
  have cbf1 := Joins.cell_of_block ((HB.block _ (size_of_block bf)).trans bf) 1
  have cbf2 := Joins.cell_of_block ((HB.block _ (size_of_block bf)).trans bf) 2
  have cbf3 := Joins.cell_of_block ((HB.block _ (size_of_block bf)).trans bf) 3
  have cbf4 := Joins.cell_of_block ((HB.block _ (size_of_block bf)).trans bf) 4
  go_wp2_with fail
  generalize (w9.alloc (.cells #[.slice Ahsb L1.length chsb, .int .i64 E] 41)) = w10 at bw HB cbf0 cbf1 cbf2 cbf3 cbf4 ⊢
  replace bf := (HB.block _ (size_of_block bf)).trans bf
  replace bp := (HB.block _ (size_of_block bp)).trans bp
  replace bq := (HB.block _ (size_of_block bq)).trans bq
  replace bc := (HB.block _ (size_of_block bc)).trans bc
  replace hk := hk.later HB
  replace hl := hl.later HB
  replace hsa := hsa.later HB
  replace hsb := hsb.later HB
  replace hB := below_then hB HB
  clear HB
  refine (X7.out w10 hk hl).mono ?_
  rintro e w11 ⟨u7, rfl, hga, hF⟩
  clear cbf0 cbf1 cbf2 cbf3 cbf4
  replace bf := (hF.block _ (size_of_block bf)).trans bf
  replace bp := (hF.block _ (size_of_block bp)).trans bp
  replace bq := (hF.block _ (size_of_block bq)).trans bq
  replace bc := (hF.block _ (size_of_block bc)).trans bc
  replace bw := (hF.block _ (size_of_block bw)).trans bw
  replace hk := hk.later hF
  replace hl := hl.later hF
  replace hsa := hsa.later hF
  replace hsb := hsb.later hF
  replace hB := below_then hB hF
  clear hF
  obtain ⟨Ahga, chga, rfl⟩ := Sl.form hga
  have bx := heap_alloc_new w11 (.cells #[.int .i64 G.rise, .int .i64 G.fall, .int .i64 G.up, .int .i64 G.down, .slice Ahga G.ls.length chga] 24)
  have HB := below_alloc w11 (.cells #[.int .i64 G.rise, .int .i64 G.fall, .int .i64 G.up, .int .i64 G.down, .slice Ahga G.ls.length chga] 24)
  have cbf0 := Joins.cell_of_block ((HB.block _ (size_of_block bf)).trans bf) 0
  have cbf1 := Joins.cell_of_block ((HB.block _ (size_of_block bf)).trans bf) 1
  have cbf2 := Joins.cell_of_block ((HB.block _ (size_of_block bf)).trans bf) 2
  have cbf3 := Joins.cell_of_block ((HB.block _ (size_of_block bf)).trans bf) 3
  have cbf4 := Joins.cell_of_block ((HB.block _ (size_of_block bf)).trans bf) 4
  go_wp2_with fail
  generalize (w11.alloc (.cells #[.int .i64 G.rise, .int .i64 G.fall, .int .i64 G.up, .int .i64 G.down, .slice Ahga G.ls.length chga] 24)) = w12 at bx HB cbf0 cbf1 cbf2 cbf3 cbf4 ⊢
  replace bf := (HB.block _ (size_of_block bf)).trans bf
  replace bp := (HB.block _ (size_of_block bp)).trans bp
  replace bq := (HB.block _ (size_of_block bq)).trans bq
  replace bc := (HB.block _ (size_of_block bc)).trans bc
  replace bw := (HB.block _ (size_of_block bw)).trans bw
  replace hk := hk.later HB
  replace hl := hl.later HB
  replace hsa := hsa.later HB
  replace hsb := hsb.later HB
  replace hga := hga.later HB
  replace hB := below_then hB HB
  clear HB
  refine (X8.out w12 hk hl).mono ?_
  rintro e w13 ⟨u8, rfl, hgb, hF⟩
  clear cbf0 cbf1 cbf2 cbf3 cbf4
  replace bf := (hF.block _ (size_of_block bf)).trans bf
  replace bp := (hF.block _ (size_of_block bp)).trans bp
  replace bq := (hF.block _ (size_of_block bq)).trans bq
  replace bc := (hF.block _ (size_of_block bc)).trans bc
  replace bw := (hF.block _ (size_of_block bw)).trans bw
  replace bx := (hF.block _ (size_of_block bx)).trans bx
  replace hk := hk.later hF
  replace hl := hl.later hF
  replace hsa := hsa.later hF
  replace hsb := hsb.later hF
  replace hga := hga.later hF
  replace hB := below_then hB hF
  clear hF
  obtain ⟨Ahgb, chgb, rfl⟩ := Sl.form hgb
  have bm := heap_alloc_new w13 (.cells #[.int .i64 G.rise, .int .i64 G.fall, .int .i64 G.up, .int .i64 G.down, .slice Ahgb G.ls.length chgb, .int .i64 E] 46)
  have HB := below_alloc w13 (.cells #[.int .i64 G.rise, .int .i64 G.fall, .int .i64 G.up, .int .i64 G.down, .slice Ahgb G.ls.length chgb, .int .i64 E] 46)
  go_wp2_with fail
  generalize (w13.alloc (.cells #[.int .i64 G.rise, .int .i64 G.fall, .int .i64 G.up, .int .i64 G.down, .slice Ahgb G.ls.length chgb, .int .i64 E] 46)) = w14 at bm HB  ⊢
  replace bf := (HB.block _ (size_of_block bf)).trans bf
  replace bp := (HB.block _ (size_of_block bp)).trans bp
  replace bq := (HB.block _ (size_of_block bq)).trans bq
  replace bc := (HB.block _ (size_of_block bc)).trans bc
  replace bw := (HB.block _ (size_of_block bw)).trans bw
  replace bx := (HB.block _ (size_of_block bx)).trans bx
  replace hk := hk.later HB
  replace hl := hl.later HB
  replace hsa := hsa.later HB
  replace hsb := hsb.later HB
  replace hga := hga.later HB
  replace hgb := hgb.later HB
  replace hB := below_then hB HB
  clear HB
  have x9 := X9.out
  have x10 := X10.out
  have cbf0 := Joins.cell_of_block bf 0
  have cbf1 := Joins.cell_of_block bf 1
  have cbf2 := Joins.cell_of_block bf 2
  have cbf3 := Joins.cell_of_block bf 3
  have cbf4 := Joins.cell_of_block bf 4
  have cbc0 := Joins.cell_of_block bc 0
  have cbc1 := Joins.cell_of_block bc 1
  have cbc2 := Joins.cell_of_block bc 2
  have cbc3 := Joins.cell_of_block bc 3
  have zbf := size_of_block bf
  have zbc := size_of_block bc
  go_wp2_with fail
  refine wp_region_grown (by kernel_rfl) (by kernel_rfl) fun hcg => ?_
  repeat (go_big_quiet_step (first | (go_at_call 18; exact Calls.grown (x9 _ (hk.later (Gr.b _)))) | (go_at_call 19; exact Calls.grown (x10 _ (hk.later (Gr.b _))))))
  refine wpQuiet_nil ?_
  intro _ hw'
  obtain ⟨g, hw''⟩ := hw'
  subst hw''
  have gb := g.b
  generalize g.val = wM52 at gb ⊢
  clear hcg cbf0 cbf1 cbf2 cbf3 cbf4 cbc0 cbc1 cbc2 cbc3 zbf zbc g
  replace bf := (gb.block _ (size_of_block bf)).trans bf
  replace bp := (gb.block _ (size_of_block bp)).trans bp
  replace bq := (gb.block _ (size_of_block bq)).trans bq
  replace bc := (gb.block _ (size_of_block bc)).trans bc
  replace bw := (gb.block _ (size_of_block bw)).trans bw
  replace bx := (gb.block _ (size_of_block bx)).trans bx
  replace bm := (gb.block _ (size_of_block bm)).trans bm
  replace hk := hk.later gb
  replace hl := hl.later gb
  replace hsa := hsa.later gb
  replace hsb := hsb.later gb
  replace hga := hga.later gb
  replace hgb := hgb.later gb
  replace hB := below_then hB gb
  clear gb
  clear x9 x10
  have x11 := X11.out
  have x12 := X12.out
  have x13 := fun W h1 h2 => sameFire_c G (.slice Ahga G.ls.length chga) (.slice Ahgb G.ls.length chgb) W h1 h2
  unfold fiV at x13
  have cbf0 := Joins.cell_of_block bf 0
  have cbf1 := Joins.cell_of_block bf 1
  have cbf2 := Joins.cell_of_block bf 2
  have cbf3 := Joins.cell_of_block bf 3
  have cbf4 := Joins.cell_of_block bf 4
  have cbw0 := Joins.cell_of_block bw 0
  have cbw1 := Joins.cell_of_block bw 1
  have cbx0 := Joins.cell_of_block bx 0
  have cbx1 := Joins.cell_of_block bx 1
  have cbx2 := Joins.cell_of_block bx 2
  have cbx3 := Joins.cell_of_block bx 3
  have cbx4 := Joins.cell_of_block bx 4
  have cbm0 := Joins.cell_of_block bm 0
  have cbm1 := Joins.cell_of_block bm 1
  have cbm2 := Joins.cell_of_block bm 2
  have cbm3 := Joins.cell_of_block bm 3
  have cbm4 := Joins.cell_of_block bm 4
  have cbm5 := Joins.cell_of_block bm 5
  have zbf := size_of_block bf
  have zbw := size_of_block bw
  have zbx := size_of_block bx
  have zbm := size_of_block bm
  go_wp2_with fail
  refine wp_region_grown (by kernel_rfl) (by kernel_rfl) fun hcg => ?_
  repeat (go_big_quiet_step (first | (go_at_call 9; exact Calls.grown (sanity_c _)) | (go_at_call 20; exact Calls.grown (x11 _ (hk.later (Gr.b _)))) | (go_at_call 21; exact Calls.grown (x12 _ (hk.later (Gr.b _)))) | (go_at_call 22; exact Calls.grown (sameInts_t _ _ L1 _ (hsa.later (Gr.b _)) (hsb.later (Gr.b _)))) | (go_at_call 23; exact Calls.grown (x13 _ (hga.later (Gr.b _)) (hgb.later (Gr.b _))))))
  refine wpQuiet_nil ?_
  intro _ hw'
  obtain ⟨g, hw''⟩ := hw'
  subst hw''
  have gb := g.b
  generalize g.val = wM54 at gb ⊢
  clear hcg cbf0 cbf1 cbf2 cbf3 cbf4 cbw0 cbw1 cbx0 cbx1 cbx2 cbx3 cbx4 cbm0 cbm1 cbm2 cbm3 cbm4 cbm5 zbf zbw zbx zbm g
  replace bf := (gb.block _ (size_of_block bf)).trans bf
  replace bp := (gb.block _ (size_of_block bp)).trans bp
  replace bq := (gb.block _ (size_of_block bq)).trans bq
  replace bc := (gb.block _ (size_of_block bc)).trans bc
  replace bw := (gb.block _ (size_of_block bw)).trans bw
  replace bx := (gb.block _ (size_of_block bx)).trans bx
  replace bm := (gb.block _ (size_of_block bm)).trans bm
  replace hk := hk.later gb
  replace hl := hl.later gb
  replace hsa := hsa.later gb
  replace hsb := hsb.later gb
  replace hga := hga.later gb
  replace hgb := hgb.later gb
  replace hB := below_then hB gb
  clear gb
  clear x11 x12 x13
  go_wp2_with fail
  go_ret
  exact ⟨rfl, hB⟩
theorem FireChecks_big5 (f : Fi) (vl : Value) (p q : Spt) (a b : Int) (A1 : Option Addr) (n1 cap1 : Nat) (w : World) (hk : Lks w w.heap.size vl f.ls) (h1 : 40 < n1) : Calls Tryz.prog 3 #[fiV f vl, sV p, sV q, .int .i64 a, .int .i64 b, .slice A1 n1 cap1] w fun e w' => e = .returned (.bool true) ∧ Below w.heap.size w w' := by
  obtain ⟨A, cap, rfl⟩ := hk.form
  cases hfew : fewB f.ls.length with
  | false => exact FireChecks_no f A _ cap p q a b _ w hfew
  | true => exact FireChecks_l1 f A cap p q a b A1 n1 cap1 h1 w hfew
theorem FireChecks_w (f : Fi) (vl : Value) (p q : Spt) (a b : Int) (v1 : Value) (l : List Int) (w : World) (hk : Lks w w.heap.size vl f.ls) (hl : Ints w w.heap.size v1 l) : Calls Tryz.prog 3 #[fiV f vl, sV p, sV q, .int .i64 a, .int .i64 b, v1] w fun e w' => e = .returned (.bool true) ∧ Below w.heap.size w w' := by
  obtain ⟨A1, cap1, rfl⟩ := Sl.form hl
  obtain ⟨A, cap, rfl⟩ := hk.form
  cases hfew : fewB f.ls.length with
  | false => exact FireChecks_no f A _ cap p q a b _ w hfew
  | true =>
    by_cases h1 : l.length ≤ 40
    · exact FireChecks_a f A A1 cap cap1 p q a b l w hk hl hfew h1
    · exact FireChecks_l1 f A cap p q a b A1 _ cap1 (by omega) w hfew
end Go.Proofs.YtjpoacffnpgjdaaGreat
