/- FireLooks: Would, Needed and Decides return what the reference returns (written by tools/genlooks.py). -/
import Derived.Test.YtjpoacffnpgjdaaGreatJ21
import Derived.Test.YtjpoacffnpgjdaaGreatZFRefZ
import Derived.Test.YtjpoacffnpgjdaaGreatZFRefAA
import Derived.Test.YtjpoacffnpgjdaaGreatJ19
import Derived.Test.YtjpoacffnpgjdaaGreatJ27
namespace Go.Proofs.YtjpoacffnpgjdaaGreat
open Go Go.RowKit Go.Shelf
attribute [local go_sem] Oper.semAt_some Rel RelAt RelUpon
theorem dec_len {f : Fi} {l : List Spt} {p : Spt} {need : Int} : (decideR f l p need).length ≤ l.length := by
  unfold decideR
  split
  · exact inds_lenZ _ _ _
  · simp
set_option maxRecDepth 100000 in
set_option maxHeartbeats 8000000 in
theorem FireLooks_no (f : Fi) (A : Option Addr) (n cap : Nat) (x : Lk) (p : Spt) (need : Int) (q : Spt) (v1 : Value) (w : World) (h : fewB n = false) : Calls Tryz.prog 7 #[fiV f (.slice A n cap), lkV x, sV p, .int .i64 need, sV q, v1] w fun e w' => e = .returned (.bool true) ∧ Below w.heap.size w w' := by
  unfold fiV lkV sV
  go_enter Tryz.func7, Tryz.ntmps7
  obtain ⟨bf, bx, bp, bq, -, HB⟩ := four_new w (.cells #[.int .i64 f.rise, .int .i64 f.fall, .int .i64 f.up, .int .i64 f.down, .slice A n cap] 24) (.cells #[.int .i64 x.id, .int .i64 x.foot, .int .i64 x.hour, .int .i64 x.lo, .int .i64 x.hi] 90) (.cells #[.int .i64 p.foot, .int .i64 p.hour] 26) (.cells #[.int .i64 q.foot, .int .i64 q.hour] 26)
  go_wp2_with fail
  generalize ((((w.alloc (.cells #[.int .i64 f.rise, .int .i64 f.fall, .int .i64 f.up, .int .i64 f.down, .slice A n cap] 24)).alloc (.cells #[.int .i64 x.id, .int .i64 x.foot, .int .i64 x.hour, .int .i64 x.lo, .int .i64 x.hi] 90)).alloc (.cells #[.int .i64 p.foot, .int .i64 p.hour] 26)).alloc (.cells #[.int .i64 q.foot, .int .i64 q.hour] 26)) = w1 at bf bx bp bq HB  ⊢
  have hB := HB
  clear HB
  refine (few_c f A n cap _).mono ?_
  rintro e w2 ⟨rfl, hF⟩
  replace bf := (hF.block _ (size_of_block bf)).trans bf
  replace bx := (hF.block _ (size_of_block bx)).trans bx
  replace bp := (hF.block _ (size_of_block bp)).trans bp
  replace bq := (hF.block _ (size_of_block bq)).trans bq
  replace hB := below_then hB hF
  clear hF
  rw [h]
  go_wp2_with fail
  refine (sanity_c _).mono ?_
  rintro e w3 ⟨rfl, hF⟩
  replace bf := (hF.block _ (size_of_block bf)).trans bf
  replace bx := (hF.block _ (size_of_block bx)).trans bx
  replace bp := (hF.block _ (size_of_block bp)).trans bp
  replace bq := (hF.block _ (size_of_block bq)).trans bq
  replace hB := below_then hB hF
  clear hF
  go_wp2_with fail
  go_ret
  exact ⟨rfl, hB⟩
set_option maxRecDepth 100000 in
set_option maxHeartbeats 8000000 in
theorem FireLooks_l1 (f : Fi) (A : Option Addr) (cap : Nat) (x : Lk) (p : Spt) (need : Int) (q : Spt) (A1 : Option Addr) (n1 cap1 : Nat) (h1 : shortB n1 = false) (w : World) (hfew : fewB f.ls.length = true) : Calls Tryz.prog 7 #[fiV f (.slice A f.ls.length cap), lkV x, sV p, .int .i64 need, sV q, (.slice A1 n1 cap1)] w fun e w' => e = .returned (.bool true) ∧ Below w.heap.size w w' := by
  unfold fiV lkV sV
  go_enter Tryz.func7, Tryz.ntmps7
  obtain ⟨bf, bx, bp, bq, -, HB⟩ := four_new w (.cells #[.int .i64 f.rise, .int .i64 f.fall, .int .i64 f.up, .int .i64 f.down, .slice A f.ls.length cap] 24) (.cells #[.int .i64 x.id, .int .i64 x.foot, .int .i64 x.hour, .int .i64 x.lo, .int .i64 x.hi] 90) (.cells #[.int .i64 p.foot, .int .i64 p.hour] 26) (.cells #[.int .i64 q.foot, .int .i64 q.hour] 26)
  go_wp2_with fail
  generalize ((((w.alloc (.cells #[.int .i64 f.rise, .int .i64 f.fall, .int .i64 f.up, .int .i64 f.down, .slice A f.ls.length cap] 24)).alloc (.cells #[.int .i64 x.id, .int .i64 x.foot, .int .i64 x.hour, .int .i64 x.lo, .int .i64 x.hi] 90)).alloc (.cells #[.int .i64 p.foot, .int .i64 p.hour] 26)).alloc (.cells #[.int .i64 q.foot, .int .i64 q.hour] 26)) = w1 at bf bx bp bq HB  ⊢
  have hB := HB
  clear HB
  refine (few_c f A f.ls.length cap _).mono ?_
  rintro e w2 ⟨rfl, hF⟩
  replace bf := (hF.block _ (size_of_block bf)).trans bf
  replace bx := (hF.block _ (size_of_block bx)).trans bx
  replace bp := (hF.block _ (size_of_block bp)).trans bp
  replace bq := (hF.block _ (size_of_block bq)).trans bq
  replace hB := below_then hB hF
  clear hF
  rw [hfew]
  go_wp2_with fail
  refine (short_c A1 n1 cap1 _).mono ?_
  rintro e w' ⟨rfl, rfl⟩
  rw [h1]
  go_wp2_with fail
  refine (sanity_c _).mono ?_
  rintro e w3 ⟨rfl, hF⟩
  replace bf := (hF.block _ (size_of_block bf)).trans bf
  replace bx := (hF.block _ (size_of_block bx)).trans bx
  replace bp := (hF.block _ (size_of_block bp)).trans bp
  replace bq := (hF.block _ (size_of_block bq)).trans bq
  replace hB := below_then hB hF
  clear hF
  go_wp2_with fail
  go_ret
  exact ⟨rfl, hB⟩
set_option maxRecDepth 100000 in
set_option maxHeartbeats 8000000 in
theorem FireLooks_a (f : Fi) (A A1 : Option Addr) (cap cap1 : Nat) (x : Lk) (p : Spt) (need : Int) (q : Spt) (l : List Spt) (w : World) (hk : Lks w w.heap.size (.slice A f.ls.length cap) f.ls) (hl : Spts w w.heap.size (.slice A1 l.length cap1) l) (hfew : fewB f.ls.length = true) (h1 : shortB l.length = true) : Calls Tryz.prog 7 #[fiV f (.slice A f.ls.length cap), lkV x, sV p, .int .i64 need, sV q, (.slice A1 l.length cap1)] w fun e w' => e = .returned (.bool true) ∧ Below w.heap.size w w' := by
  have x1 := fun W h => Would_c f (.slice A f.ls.length cap) x p W h
  have x2 := fun W h => WouldR_c f (.slice A f.ls.length cap) x p W h
  have x3 := fun W h => Needed_c f (.slice A f.ls.length cap) q p need W h
  have x4 := fun W h => NeededR_c f (.slice A f.ls.length cap) q p need W h
  have x5 := fun W h hl => Decides_c f (.slice A f.ls.length cap) (.slice A1 l.length cap1) l p need W h hl
  have x6 := fun W h hl => DecidesR_c f (.slice A f.ls.length cap) (.slice A1 l.length cap1) l p need W h hl
  have r1 := dec_len (f := f) (l := l) (p := p) (need := need)
  have h40 : l.length ≤ 40 := by unfold shortB at h1; simp only [Bool.or_eq_true, Bool.and_eq_true, decide_eq_true_eq] at h1; omega
  obtain ⟨⟨r0, r1_, r2, r3⟩, hR⟩ : ∃ e, e = wouldR f x p := ⟨_, rfl⟩
  rw [← hR] at x1 x2
  clear hR
  generalize wouldE f x p = E1 at x1 x2
  generalize (neededR f q p need).1 = N1 at x3 x4
  generalize (neededR f q p need).2 = N2 at x3 x4
  generalize needE f q p need = E2 at x3 x4
  generalize decideR f l p need = L1 at x5 x6 r1
  generalize decideE f l p need = E3 at x5 x6
  unfold bndV at x1
  dsimp only at x1 x2
  unfold lkV sV at x1 x2
  unfold sV at x3 x4 x5 x6
  have HR1 := Lib.hid r1
  have H3 := Lib.hid h40
  clear r1 h40
  have X1 := Lib.hid x1
  have X2 := Lib.hid x2
  have X3 := Lib.hid x3
  have X4 := Lib.hid x4
  have X5 := Lib.hid x5
  have X6 := Lib.hid x6
  clear x1 x2 x3 x4 x5 x6
  have HK := Lib.hid hk
  have HL := Lib.hid hl
  clear hk hl
  unfold fiV lkV sV
  go_enter Tryz.func7, Tryz.ntmps7
  obtain ⟨bf, bx, bp, bq, -, HB⟩ := four_new w (.cells #[.int .i64 f.rise, .int .i64 f.fall, .int .i64 f.up, .int .i64 f.down, .slice A f.ls.length cap] 24) (.cells #[.int .i64 x.id, .int .i64 x.foot, .int .i64 x.hour, .int .i64 x.lo, .int .i64 x.hi] 90) (.cells #[.int .i64 p.foot, .int .i64 p.hour] 26) (.cells #[.int .i64 q.foot, .int .i64 q.hour] 26)
  go_wp2_with fail
  generalize ((((w.alloc (.cells #[.int .i64 f.rise, .int .i64 f.fall, .int .i64 f.up, .int .i64 f.down, .slice A f.ls.length cap] 24)).alloc (.cells #[.int .i64 x.id, .int .i64 x.foot, .int .i64 x.hour, .int .i64 x.lo, .int .i64 x.hi] 90)).alloc (.cells #[.int .i64 p.foot, .int .i64 p.hour] 26)).alloc (.cells #[.int .i64 q.foot, .int .i64 q.hour] 26)) = w1 at bf bx bp bq HB  ⊢
  have hB := HB
  clear HB
  have hk := HK.out.later hB
  have hl := HL.out.later hB
  refine (few_c f A f.ls.length cap _).mono ?_
  rintro e w2 ⟨rfl, hF⟩
  replace bf := (hF.block _ (size_of_block bf)).trans bf
  replace bx := (hF.block _ (size_of_block bx)).trans bx
  replace bp := (hF.block _ (size_of_block bp)).trans bp
  replace bq := (hF.block _ (size_of_block bq)).trans bq
  replace hk := hk.later hF
  replace hl := hl.later hF
  replace hB := below_then hB hF
  clear hF
  rw [hfew]
  go_wp2_with fail
  refine (short_c A1 l.length cap1 _).mono ?_
  rintro e w' ⟨rfl, rfl⟩
  rw [h1]
  have cbf0 := Joins.cell_of_block bf 0
  have cbf1 := Joins.cell_of_block bf 1
  have cbf2 := Joins.cell_of_block bf 2
  have cbf3 := Joins.cell_of_block bf 3
  have cbf4 := Joins.cell_of_block bf 4
  have cbx0 := Joins.cell_of_block bx 0
  have cbx1 := Joins.cell_of_block bx 1
  have cbx2 := Joins.cell_of_block bx 2
  have cbx3 := Joins.cell_of_block bx 3
  have cbx4 := Joins.cell_of_block bx 4
  have cbp0 := Joins.cell_of_block bp 0
  have cbp1 := Joins.cell_of_block bp 1
  go_wp2_with fail
  refine (X1.out w2 hk).mono ?_
  rintro e w3 ⟨rfl, hF⟩
  clear cbf0 cbf1 cbf2 cbf3 cbf4 cbx0 cbx1 cbx2 cbx3 cbx4 cbp0 cbp1
  replace bf := (hF.block _ (size_of_block bf)).trans bf
  replace bx := (hF.block _ (size_of_block bx)).trans bx
  replace bp := (hF.block _ (size_of_block bp)).trans bp
  replace bq := (hF.block _ (size_of_block bq)).trans bq
  replace hk := hk.later hF
  replace hl := hl.later hF
  replace hB := below_then hB hF
  clear hF
  have ba := heap_alloc_new w3 (.cells #[.int .i64 r0, .int .i64 r1_, .int .i64 r2, .int .i64 r3] 56)
  have HB := below_alloc w3 (.cells #[.int .i64 r0, .int .i64 r1_, .int .i64 r2, .int .i64 r3] 56)
  have cbf0 := Joins.cell_of_block ((HB.block _ (size_of_block bf)).trans bf) 0
  have cbf1 := Joins.cell_of_block ((HB.block _ (size_of_block bf)).trans bf) 1
  have cbf2 := Joins.cell_of_block ((HB.block _ (size_of_block bf)).trans bf) 2
  have cbf3 := Joins.cell_of_block ((HB.block _ (size_of_block bf)).trans bf) 3
  have cbf4 := Joins.cell_of_block ((HB.block _ (size_of_block bf)).trans bf) 4
  have cbx0 := Joins.cell_of_block ((HB.block _ (size_of_block bx)).trans bx) 0
  have cbx1 := Joins.cell_of_block ((HB.block _ (size_of_block bx)).trans bx) 1
  have cbx2 := Joins.cell_of_block ((HB.block _ (size_of_block bx)).trans bx) 2
  have cbx3 := Joins.cell_of_block ((HB.block _ (size_of_block bx)).trans bx) 3
  have cbx4 := Joins.cell_of_block ((HB.block _ (size_of_block bx)).trans bx) 4
  have cbp0 := Joins.cell_of_block ((HB.block _ (size_of_block bp)).trans bp) 0
  have cbp1 := Joins.cell_of_block ((HB.block _ (size_of_block bp)).trans bp) 1
  go_wp2_with fail
  generalize (w3.alloc (.cells #[.int .i64 r0, .int .i64 r1_, .int .i64 r2, .int .i64 r3] 56)) = w4 at ba HB cbf0 cbf1 cbf2 cbf3 cbf4 cbx0 cbx1 cbx2 cbx3 cbx4 cbp0 cbp1 ⊢
  replace bf := (HB.block _ (size_of_block bf)).trans bf
  replace bx := (HB.block _ (size_of_block bx)).trans bx
  replace bp := (HB.block _ (size_of_block bp)).trans bp
  replace bq := (HB.block _ (size_of_block bq)).trans bq
  replace hk := hk.later HB
  replace hl := hl.later HB
  replace hB := below_then hB HB
  clear HB
  refine (X2.out w4 hk).mono ?_
  rintro e w5 ⟨rfl, hF⟩
  clear cbf0 cbf1 cbf2 cbf3 cbf4 cbx0 cbx1 cbx2 cbx3 cbx4 cbp0 cbp1
  replace bf := (hF.block _ (size_of_block bf)).trans bf
  replace bx := (hF.block _ (size_of_block bx)).trans bx
  replace bp := (hF.block _ (size_of_block bp)).trans bp
  replace bq := (hF.block _ (size_of_block bq)).trans bq
  replace ba := (hF.block _ (size_of_block ba)).trans ba
  replace hk := hk.later hF
  replace hl := hl.later hF
  replace hB := below_then hB hF
  clear hF
  have bu := heap_alloc_new w5 (.cells #[.int .i64 r0, .int .i64 r1_, .int .i64 r2, .int .i64 r3, .int .i64 E1] 60)
  have HB := below_alloc w5 (.cells #[.int .i64 r0, .int .i64 r1_, .int .i64 r2, .int .i64 r3, .int .i64 E1] 60)
  have cbf0 := Joins.cell_of_block ((HB.block _ (size_of_block bf)).trans bf) 0
  have cbf1 := Joins.cell_of_block ((HB.block _ (size_of_block bf)).trans bf) 1
  have cbf2 := Joins.cell_of_block ((HB.block _ (size_of_block bf)).trans bf) 2
  have cbf3 := Joins.cell_of_block ((HB.block _ (size_of_block bf)).trans bf) 3
  have cbf4 := Joins.cell_of_block ((HB.block _ (size_of_block bf)).trans bf) 4
  have cbq0 := Joins.cell_of_block ((HB.block _ (size_of_block bq)).trans bq) 0
  have cbq1 := Joins.cell_of_block ((HB.block _ (size_of_block bq)).trans bq) 1
  have cbp0 := Joins.cell_of_block ((HB.block _ (size_of_block bp)).trans bp) 0
  have cbp1 := Joins.cell_of_block ((HB.block _ (size_of_block bp)).trans bp) 1
  go_wp2_with fail
  generalize (w5.alloc (.cells #[.int .i64 r0, .int .i64 r1_, .int .i64 r2, .int .i64 r3, .int .i64 E1] 60)) = w6 at bu HB cbf0 cbf1 cbf2 cbf3 cbf4 cbq0 cbq1 cbp0 cbp1 ⊢
  replace bf := (HB.block _ (size_of_block bf)).trans bf
  replace bx := (HB.block _ (size_of_block bx)).trans bx
  replace bp := (HB.block _ (size_of_block bp)).trans bp
  replace bq := (HB.block _ (size_of_block bq)).trans bq
  replace ba := (HB.block _ (size_of_block ba)).trans ba
  replace hk := hk.later HB
  replace hl := hl.later HB
  replace hB := below_then hB HB
  clear HB
  refine (X3.out w6 hk).mono ?_
  rintro e w7 ⟨rfl, hF⟩
  clear cbf0 cbf1 cbf2 cbf3 cbf4 cbq0 cbq1 cbp0 cbp1
  replace bf := (hF.block _ (size_of_block bf)).trans bf
  replace bx := (hF.block _ (size_of_block bx)).trans bx
  replace bp := (hF.block _ (size_of_block bp)).trans bp
  replace bq := (hF.block _ (size_of_block bq)).trans bq
  replace ba := (hF.block _ (size_of_block ba)).trans ba
  replace bu := (hF.block _ (size_of_block bu)).trans bu
  replace hk := hk.later hF
  replace hl := hl.later hF
  replace hB := below_then hB hF
  clear hF
  have cbf0 := Joins.cell_of_block bf 0
  have cbf1 := Joins.cell_of_block bf 1
  have cbf2 := Joins.cell_of_block bf 2
  have cbf3 := Joins.cell_of_block bf 3
  have cbf4 := Joins.cell_of_block bf 4
  have cbq0 := Joins.cell_of_block bq 0
  have cbq1 := Joins.cell_of_block bq 1
  have cbp0 := Joins.cell_of_block bp 0
  have cbp1 := Joins.cell_of_block bp 1
  go_wp2_with fail
  refine (X4.out w7 hk).mono ?_
  rintro e w8 ⟨rfl, hF⟩
  clear cbf0 cbf1 cbf2 cbf3 cbf4 cbq0 cbq1 cbp0 cbp1
  replace bf := (hF.block _ (size_of_block bf)).trans bf
  replace bx := (hF.block _ (size_of_block bx)).trans bx
  replace bp := (hF.block _ (size_of_block bp)).trans bp
  replace bq := (hF.block _ (size_of_block bq)).trans bq
  replace ba := (hF.block _ (size_of_block ba)).trans ba
  replace bu := (hF.block _ (size_of_block bu)).trans bu
  replace hk := hk.later hF
  replace hl := hl.later hF
  replace hB := below_then hB hF
  clear hF
  have bv := heap_alloc_new w8 (.cells #[.int .i64 N1, .bool N2, .int .i64 E2] 96)
  have HB := below_alloc w8 (.cells #[.int .i64 N1, .bool N2, .int .i64 E2] 96)
  have cbf0 := Joins.cell_of_block ((HB.block _ (size_of_block bf)).trans bf) 0
  have cbf1 := Joins.cell_of_block ((HB.block _ (size_of_block bf)).trans bf) 1
  have cbf2 := Joins.cell_of_block ((HB.block _ (size_of_block bf)).trans bf) 2
  have cbf3 := Joins.cell_of_block ((HB.block _ (size_of_block bf)).trans bf) 3
  have cbf4 := Joins.cell_of_block ((HB.block _ (size_of_block bf)).trans bf) 4
  have cbp0 := Joins.cell_of_block ((HB.block _ (size_of_block bp)).trans bp) 0
  have cbp1 := Joins.cell_of_block ((HB.block _ (size_of_block bp)).trans bp) 1
  go_wp2_with fail
  generalize (w8.alloc (.cells #[.int .i64 N1, .bool N2, .int .i64 E2] 96)) = w9 at bv HB cbf0 cbf1 cbf2 cbf3 cbf4 cbp0 cbp1 ⊢
  replace bf := (HB.block _ (size_of_block bf)).trans bf
  replace bx := (HB.block _ (size_of_block bx)).trans bx
  replace bp := (HB.block _ (size_of_block bp)).trans bp
  replace bq := (HB.block _ (size_of_block bq)).trans bq
  replace ba := (HB.block _ (size_of_block ba)).trans ba
  replace bu := (HB.block _ (size_of_block bu)).trans bu
  replace hk := hk.later HB
  replace hl := hl.later HB
  replace hB := below_then hB HB
  clear HB
  refine (X5.out w9 hk hl).mono ?_
  rintro e w10 ⟨s1, rfl, hs1, hF⟩
  clear cbf0 cbf1 cbf2 cbf3 cbf4 cbp0 cbp1
  replace bf := (hF.block _ (size_of_block bf)).trans bf
  replace bx := (hF.block _ (size_of_block bx)).trans bx
  replace bp := (hF.block _ (size_of_block bp)).trans bp
  replace bq := (hF.block _ (size_of_block bq)).trans bq
  replace ba := (hF.block _ (size_of_block ba)).trans ba
  replace bu := (hF.block _ (size_of_block bu)).trans bu
  replace bv := (hF.block _ (size_of_block bv)).trans bv
  replace hk := hk.later hF
  replace hl := hl.later hF
  replace hB := below_then hB hF
  clear hF
  have hsa := Ints.of_own hs1 (by have := HR1.out; have := H3.out; omega)
  clear hs1
  obtain ⟨Ahsa, chsa, rfl⟩ := Sl.form hsa
  have cbf0 := Joins.cell_of_block bf 0
  have cbf1 := Joins.cell_of_block bf 1
  have cbf2 := Joins.cell_of_block bf 2
  have cbf3 := Joins.cell_of_block bf 3
  have cbf4 := Joins.cell_of_block bf 4
  have cbp0 := Joins.cell_of_block bp 0
  have cbp1 := Joins.cell_of_block bp 1
  go_wp2_with fail
  refine (X6.out w10 hk hl).mono ?_
  rintro e w11 ⟨s2, rfl, hs2, hF⟩
  clear cbf0 cbf1 cbf2 cbf3 cbf4 cbp0 cbp1
  replace bf := (hF.block _ (size_of_block bf)).trans bf
  replace bx := (hF.block _ (size_of_block bx)).trans bx
  replace bp := (hF.block _ (size_of_block bp)).trans bp
  replace bq := (hF.block _ (size_of_block bq)).trans bq
  replace ba := (hF.block _ (size_of_block ba)).trans ba
  replace bu := (hF.block _ (size_of_block bu)).trans bu
  replace bv := (hF.block _ (size_of_block bv)).trans bv
  replace hk := hk.later hF
  replace hl := hl.later hF
  replace hsa := hsa.later hF
  replace hB := below_then hB hF
  clear hF
  have hsb := Ints.of_own hs2 (by have := HR1.out; have := H3.out; omega)
  clear hs2
  obtain ⟨Ahsb, chsb, rfl⟩ := Sl.form hsb
  have bw := heap_alloc_new w11 (.cells #[.slice Ahsb L1.length chsb, .int .i64 E3] 41)
  have HB := below_alloc w11 (.cells #[.slice Ahsb L1.length chsb, .int .i64 E3] 41)
  go_wp2_with fail
  generalize (w11.alloc (.cells #[.slice Ahsb L1.length chsb, .int .i64 E3] 41)) = w12 at bw HB  ⊢
  replace bf := (HB.block _ (size_of_block bf)).trans bf
  replace bx := (HB.block _ (size_of_block bx)).trans bx
  replace bp := (HB.block _ (size_of_block bp)).trans bp
  replace bq := (HB.block _ (size_of_block bq)).trans bq
  replace ba := (HB.block _ (size_of_block ba)).trans ba
  replace bu := (HB.block _ (size_of_block bu)).trans bu
  replace bv := (HB.block _ (size_of_block bv)).trans bv
  replace hk := hk.later HB
  replace hl := hl.later HB
  replace hsa := hsa.later HB
  replace hsb := hsb.later HB
  replace hB := below_then hB HB
  clear HB
  refine (sanity_c w12).mono ?_
  rintro e w13 ⟨rfl, hF⟩
  replace bf := (hF.block _ (size_of_block bf)).trans bf
  replace bx := (hF.block _ (size_of_block bx)).trans bx
  replace bp := (hF.block _ (size_of_block bp)).trans bp
  replace bq := (hF.block _ (size_of_block bq)).trans bq
  replace ba := (hF.block _ (size_of_block ba)).trans ba
  replace bu := (hF.block _ (size_of_block bu)).trans bu
  replace bv := (hF.block _ (size_of_block bv)).trans bv
  replace bw := (hF.block _ (size_of_block bw)).trans bw
  replace hk := hk.later hF
  replace hl := hl.later hF
  replace hsa := hsa.later hF
  replace hsb := hsb.later hF
  replace hB := below_then hB hF
  clear hF
  have heq := fun W => Tryz.eqBd r0 r1_ r2 r3 r0 r1_ r2 r3 W
  simp only [beq_self_eq_true, Bool.and_self] at heq
  have cba0 := Joins.cell_of_block ba 0
  have cba1 := Joins.cell_of_block ba 1
  have cba2 := Joins.cell_of_block ba 2
  have cba3 := Joins.cell_of_block ba 3
  have cbu0 := Joins.cell_of_block bu 0
  have cbu1 := Joins.cell_of_block bu 1
  have cbu2 := Joins.cell_of_block bu 2
  have cbu3 := Joins.cell_of_block bu 3
  have cbu4 := Joins.cell_of_block bu 4
  have cbv0 := Joins.cell_of_block bv 0
  have cbv1 := Joins.cell_of_block bv 1
  have cbv2 := Joins.cell_of_block bv 2
  have cbw0 := Joins.cell_of_block bw 0
  have cbw1 := Joins.cell_of_block bw 1
  go_wp2_with fail
  refine (sameInts_c _ _ L1 L1 w13 hsa hsb).mono ?_
  rintro e w14 ⟨rfl, hF⟩
  clear cba0 cba1 cba2 cba3 cbu0 cbu1 cbu2 cbu3 cbu4 cbv0 cbv1 cbv2 cbw0 cbw1
  replace bf := (hF.block _ (size_of_block bf)).trans bf
  replace bx := (hF.block _ (size_of_block bx)).trans bx
  replace bp := (hF.block _ (size_of_block bp)).trans bp
  replace bq := (hF.block _ (size_of_block bq)).trans bq
  replace ba := (hF.block _ (size_of_block ba)).trans ba
  replace bu := (hF.block _ (size_of_block bu)).trans bu
  replace bv := (hF.block _ (size_of_block bv)).trans bv
  replace bw := (hF.block _ (size_of_block bw)).trans bw
  replace hk := hk.later hF
  replace hl := hl.later hF
  replace hsa := hsa.later hF
  replace hsb := hsb.later hF
  replace hB := below_then hB hF
  clear hF
  rw [decide_eq_true rfl]
  have cbw0 := Joins.cell_of_block bw 0
  have cbw1 := Joins.cell_of_block bw 1
  go_wp2_with fail
  go_ret
  exact ⟨rfl, hB⟩
theorem FireLooks_big5 (f : Fi) (vl : Value) (x : Lk) (p : Spt) (need : Int) (q : Spt) (A1 : Option Addr) (n1 cap1 : Nat) (w : World) (hk : Lks w w.heap.size vl f.ls) (h1 : 40 < n1) : Calls Tryz.prog 7 #[fiV f vl, lkV x, sV p, .int .i64 need, sV q, .slice A1 n1 cap1] w fun e w' => e = .returned (.bool true) ∧ Below w.heap.size w w' := by
  obtain ⟨A, cap, rfl⟩ := hk.form
  cases hfew : fewB f.ls.length with
  | false => exact FireLooks_no f A _ cap x p need q _ w hfew
  | true => exact FireLooks_l1 f A cap x p need q A1 n1 cap1 (by unfold shortB; rw [decide_eq_false (by omega), decide_eq_false (show ¬ n1 ≤ 40 by omega), Bool.and_false]; rfl) w hfew
theorem FireLooks_w (f : Fi) (vl : Value) (x : Lk) (p : Spt) (need : Int) (q : Spt) (v1 : Value) (l : List Spt) (w : World) (hk : Lks w w.heap.size vl f.ls) (hl : Spts w w.heap.size v1 l) : Calls Tryz.prog 7 #[fiV f vl, lkV x, sV p, .int .i64 need, sV q, v1] w fun e w' => e = .returned (.bool true) ∧ Below w.heap.size w w' := by
  obtain ⟨A1, cap1, rfl⟩ := Sl.form hl
  obtain ⟨A, cap, rfl⟩ := hk.form
  cases hfew : fewB f.ls.length with
  | false => exact FireLooks_no f A _ cap x p need q _ w hfew
  | true =>
    cases h1 : shortB l.length with
    | false => exact FireLooks_l1 f A cap x p need q A1 _ cap1 h1 w hfew
    | true => exact FireLooks_a f A A1 cap cap1 x p need q l w hk hl hfew h1
end Go.Proofs.YtjpoacffnpgjdaaGreat
