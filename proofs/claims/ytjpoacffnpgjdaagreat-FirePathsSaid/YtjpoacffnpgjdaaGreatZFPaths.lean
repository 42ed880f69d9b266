/- FirePaths: CheckPath, Burnt, Surely and Possibly return what the reference returns (written by tools/genpaths.py). -/
import Derived.Test.YtjpoacffnpgjdaaGreatJ21
import Derived.Test.YtjpoacffnpgjdaaGreatJ36
import Derived.Test.YtjpoacffnpgjdaaGreatJ18
namespace Go.Proofs.YtjpoacffnpgjdaaGreat
open Go Go.RowKit Go.Shelf
attribute [local go_sem] Oper.semAt_some Rel RelAt RelUpon
def pathB (n : Nat) : Bool := decide (n ≤ 40) || (decide (200 < n) && decide (n ≤ 230))
theorem path_c (A : Option Addr) (n cap : Nat) (w : World) : Calls Tryz.prog 37 #[.slice A n cap] w fun e w' => e = .returned (.bool (pathB n)) ∧ w = w' := by
  unfold pathB
  by_cases h1 : n ≤ 40
  · have d1 : decide ((n : Int) ≤ 40) = true := decide_eq_true (by omega)
    rw [decide_eq_true h1, Bool.true_or]
    clear h1
    go_enter Tryz.func37, Tryz.ntmps37
    go_wp2
    go_ret
    exact ⟨rfl, rfl⟩
  · have d1 : decide ((n : Int) ≤ 40) = false := decide_eq_false (by omega)
    rw [decide_eq_false h1, Bool.false_or]
    by_cases h2 : 200 < n
    · have d2 : decide ((n : Int) > 200) = true := decide_eq_true (by omega)
      rw [decide_eq_true h2, Bool.true_and]
      by_cases h3 : n ≤ 230
      · have d3 : decide ((n : Int) ≤ 230) = true := decide_eq_true (by omega)
        rw [decide_eq_true h3]
        clear h1 h2 h3
        go_enter Tryz.func37, Tryz.ntmps37
        go_wp2
        go_ret
        exact ⟨rfl, rfl⟩
      · have d3 : decide ((n : Int) ≤ 230) = false := decide_eq_false (by omega)
        rw [decide_eq_false h3]
        clear h1 h2 h3
        go_enter Tryz.func37, Tryz.ntmps37
        go_wp2
        go_ret
        exact ⟨rfl, rfl⟩
    · have d2 : decide ((n : Int) > 200) = false := decide_eq_false (by omega)
      rw [decide_eq_false h2, Bool.false_and]
      clear h1 h2
      go_enter Tryz.func37, Tryz.ntmps37
      go_wp2
      go_ret
      exact ⟨rfl, rfl⟩
theorem rows_len2 {f : Fi} {l : List Spt} {need : Int} : (surelyR f l need).length ≤ l.length ∧ (possiblyR f l need).length ≤ l.length := by
  unfold surelyR possiblyR
  constructor
  · split
    · exact rows_short lowsI (by unfold lowsI; simp)
    · simp
  · split
    · exact rows_short highsI (by unfold highsI; simp)
    · simp
set_option maxRecDepth 100000 in
set_option maxHeartbeats 8000000 in
theorem FirePaths_no (f : Fi) (A : Option Addr) (n cap : Nat) (v1 : Value) (need : Int) (w : World) (h : fewB n = false) : Calls Tryz.prog 6 #[fiV f (.slice A n cap), v1, .int .i64 need] w fun e w' => e = .returned (.bool true) ∧ Below w.heap.size w w' := by
  unfold fiV
  go_enter Tryz.func6, Tryz.ntmps6
  have bf := heap_alloc_new w (.cells #[.int .i64 f.rise, .int .i64 f.fall, .int .i64 f.up, .int .i64 f.down, .slice A n cap] 24)
  have HB := below_alloc w (.cells #[.int .i64 f.rise, .int .i64 f.fall, .int .i64 f.up, .int .i64 f.down, .slice A n cap] 24)
  go_wp2_with fail
  generalize (w.alloc (.cells #[.int .i64 f.rise, .int .i64 f.fall, .int .i64 f.up, .int .i64 f.down, .slice A n cap] 24)) = w1 at bf HB  ⊢
  have hB := HB
  clear HB
  refine (few_c f A n cap _).mono ?_
  rintro e w2 ⟨rfl, hF⟩
  replace bf := (hF.block _ (size_of_block bf)).trans bf
  replace hB := below_then hB hF
  clear hF
  rw [h]
  go_wp2_with fail
  refine (sanity_c _).mono ?_
  rintro e w3 ⟨rfl, hF⟩
  replace bf := (hF.block _ (size_of_block bf)).trans bf
  replace hB := below_then hB hF
  clear hF
  go_wp2_with fail
  go_ret
  exact ⟨rfl, hB⟩
set_option maxRecDepth 100000 in
set_option maxHeartbeats 8000000 in
theorem FirePaths_l1 (f : Fi) (A : Option Addr) (cap : Nat) (A1 : Option Addr) (n1 cap1 : Nat) (h1 : pathB n1 = false) (need : Int) (w : World) (hfew : fewB f.ls.length = true) : Calls Tryz.prog 6 #[fiV f (.slice A f.ls.length cap), (.slice A1 n1 cap1), .int .i64 need] w fun e w' => e = .returned (.bool true) ∧ Below w.heap.size w w' := by
  unfold fiV
  go_enter Tryz.func6, Tryz.ntmps6
  have bf := heap_alloc_new w (.cells #[.int .i64 f.rise, .int .i64 f.fall, .int .i64 f.up, .int .i64 f.down, .slice A f.ls.length cap] 24)
  have HB := below_alloc w (.cells #[.int .i64 f.rise, .int .i64 f.fall, .int .i64 f.up, .int .i64 f.down, .slice A f.ls.length cap] 24)
  go_wp2_with fail
  generalize (w.alloc (.cells #[.int .i64 f.rise, .int .i64 f.fall, .int .i64 f.up, .int .i64 f.down, .slice A f.ls.length cap] 24)) = w1 at bf HB  ⊢
  have hB := HB
  clear HB
  refine (few_c f A f.ls.length cap _).mono ?_
  rintro e w2 ⟨rfl, hF⟩
  replace bf := (hF.block _ (size_of_block bf)).trans bf
  replace hB := below_then hB hF
  clear hF
  rw [hfew]
  go_wp2_with fail
  refine (path_c A1 n1 cap1 _).mono ?_
  rintro e w' ⟨rfl, rfl⟩
  rw [h1]
  go_wp2_with fail
  refine (sanity_c _).mono ?_
  rintro e w3 ⟨rfl, hF⟩
  replace bf := (hF.block _ (size_of_block bf)).trans bf
  replace hB := below_then hB hF
  clear hF
  go_wp2_with fail
  go_ret
  exact ⟨rfl, hB⟩
set_option maxRecDepth 100000 in
set_option maxHeartbeats 8000000 in
theorem FirePaths_a (f : Fi) (A A1 : Option Addr) (cap cap1 : Nat) (l : List Spt) (need : Int) (w : World) (hk : Lks w w.heap.size (.slice A f.ls.length cap) f.ls) (hl : Spts w w.heap.size (.slice A1 l.length cap1) l) (hfew : fewB f.ls.length = true) (h1 : pathB l.length = true) : Calls Tryz.prog 6 #[fiV f (.slice A f.ls.length cap), (.slice A1 l.length cap1), .int .i64 need] w fun e w' => e = .returned (.bool true) ∧ Below w.heap.size w w' := by
  have x1 := fun W h hl => Burnt_c f (.slice A f.ls.length cap) (.slice A1 l.length cap1) l need W h hl
  have x2 := fun W h hl => BurntR_c f (.slice A f.ls.length cap) (.slice A1 l.length cap1) l need W h hl
  have x3 := fun W h hl => Surely_c f (.slice A f.ls.length cap) (.slice A1 l.length cap1) l need W h hl
  have x4 := fun W h hl => SurelyR_c f (.slice A f.ls.length cap) (.slice A1 l.length cap1) l need W h hl
  have x5 := fun W h hl => Possibly_c f (.slice A f.ls.length cap) (.slice A1 l.length cap1) l need W h hl
  have x6 := fun W h hl => PossiblyR_c f (.slice A f.ls.length cap) (.slice A1 l.length cap1) l need W h hl
  have x7 := fun W hl => CheckPath_c (.slice A1 l.length cap1) l W hl
  have x8 := fun W hl => CheckPathR_c (.slice A1 l.length cap1) l W hl
  obtain ⟨r1, r2⟩ := rows_len2 (f := f) (l := l) (need := need)
  have h230 : l.length ≤ 230 := by unfold pathB at h1; simp only [Bool.or_eq_true, Bool.and_eq_true, decide_eq_true_eq] at h1; omega
  generalize leastR f l need = b1 at x1 x2
  generalize mostR f l need = b2 at x1 x2
  generalize sunkE f l need = E at x1 x2 x3 x4 x5 x6
  generalize surelyR f l need = S1 at x3 x4 r1
  generalize possiblyR f l need = S2 at x5 x6 r2
  generalize pathI l = P at x7 x8
  have HR1 := Lib.hid r1
  have HR2 := Lib.hid r2
  have H3 := Lib.hid h230
  clear r1 r2 h230
  have X1 := Lib.hid x1
  have X2 := Lib.hid x2
  have X3 := Lib.hid x3
  have X4 := Lib.hid x4
  have X5 := Lib.hid x5
  have X6 := Lib.hid x6
  have X7 := Lib.hid x7
  have X8 := Lib.hid x8
  clear x1 x2 x3 x4 x5 x6 x7 x8
  have HK := Lib.hid hk
  have HL := Lib.hid hl
  clear hk hl
  unfold fiV
  go_enter Tryz.func6, Tryz.ntmps6
  have bf := heap_alloc_new w (.cells #[.int .i64 f.rise, .int .i64 f.fall, .int .i64 f.up, .int .i64 f.down, .slice A f.ls.length cap] 24)
  have HB := below_alloc w (.cells #[.int .i64 f.rise, .int .i64 f.fall, .int .i64 f.up, .int .i64 f.down, .slice A f.ls.length cap] 24)
  go_wp2_with fail
  generalize (w.alloc (.cells #[.int .i64 f.rise, .int .i64 f.fall, .int .i64 f.up, .int .i64 f.down, .slice A f.ls.length cap] 24)) = w1 at bf HB  ⊢
  have hB := HB
  clear HB
  have hk := HK.out.later hB
  have hl := HL.out.later hB
  refine (few_c f A f.ls.length cap _).mono ?_
  rintro e w2 ⟨rfl, hF⟩
  replace bf := (hF.block _ (size_of_block bf)).trans bf
  replace hk := hk.later hF
  replace hl := hl.later hF
  replace hB := below_then hB hF
  clear hF
  rw [hfew]
  go_wp2_with fail
  refine (path_c A1 l.length cap1 _).mono ?_
  rintro e w' ⟨rfl, rfl⟩
  rw [h1]
  have cbf0 := Joins.cell_of_block bf 0
  have cbf1 := Joins.cell_of_block bf 1
  have cbf2 := Joins.cell_of_block bf 2
  have cbf3 := Joins.cell_of_block bf 3
  have cbf4 := Joins.cell_of_block bf 4
  go_wp2_with fail
  refine (X1.out w2 hk hl).mono ?_
  rintro e w3 ⟨rfl, hF⟩
  clear cbf0 cbf1 cbf2 cbf3 cbf4
  replace bf := (hF.block _ (size_of_block bf)).trans bf
  replace hk := hk.later hF
  replace hl := hl.later hF
  replace hB := below_then hB hF
  clear hF
  obtain ⟨ba, bb, -, HB⟩ := two_new' w3 (.cells #[.int .i64 b1.hours, .int .i64 b1.row, .int .i64 b1.sum] 74) (.cells #[.int .i64 b2.hours, .int .i64 b2.row, .int .i64 b2.sum] 74)
  have cbf0 := Joins.cell_of_block ((HB.block _ (size_of_block bf)).trans bf) 0
  have cbf1 := Joins.cell_of_block ((HB.block _ (size_of_block bf)).trans bf) 1
  have cbf2 := Joins.cell_of_block ((HB.block _ (size_of_block bf)).trans bf) 2
  have cbf3 := Joins.cell_of_block ((HB.block _ (size_of_block bf)).trans bf) 3
  have cbf4 := Joins.cell_of_block ((HB.block _ (size_of_block bf)).trans bf) 4
  go_wp2_with fail
  generalize ((w3.alloc (.cells #[.int .i64 b1.hours, .int .i64 b1.row, .int .i64 b1.sum] 74)).alloc (.cells #[.int .i64 b2.hours, .int .i64 b2.row, .int .i64 b2.sum] 74)) = w4 at ba bb HB cbf0 cbf1 cbf2 cbf3 cbf4 ⊢
  replace bf := (HB.block _ (size_of_block bf)).trans bf
  replace hk := hk.later HB
  replace hl := hl.later HB
  replace hB := below_then hB HB
  clear HB
  refine (X2.out w4 hk hl).mono ?_
  rintro e w5 ⟨rfl, hF⟩
  clear cbf0 cbf1 cbf2 cbf3 cbf4
  replace bf := (hF.block _ (size_of_block bf)).trans bf
  replace ba := (hF.block _ (size_of_block ba)).trans ba
  replace bb := (hF.block _ (size_of_block bb)).trans bb
  replace hk := hk.later hF
  replace hl := hl.later hF
  replace hB := below_then hB hF
  clear hF
  have bx := heap_alloc_new w5 (.cells #[.int .i64 b1.hours, .int .i64 b1.row, .int .i64 b1.sum, .int .i64 b2.hours, .int .i64 b2.row, .int .i64 b2.sum, .int .i64 E] 78)
  have HB := below_alloc w5 (.cells #[.int .i64 b1.hours, .int .i64 b1.row, .int .i64 b1.sum, .int .i64 b2.hours, .int .i64 b2.row, .int .i64 b2.sum, .int .i64 E] 78)
  have cbf0 := Joins.cell_of_block ((HB.block _ (size_of_block bf)).trans bf) 0
  have cbf1 := Joins.cell_of_block ((HB.block _ (size_of_block bf)).trans bf) 1
  have cbf2 := Joins.cell_of_block ((HB.block _ (size_of_block bf)).trans bf) 2
  have cbf3 := Joins.cell_of_block ((HB.block _ (size_of_block bf)).trans bf) 3
  have cbf4 := Joins.cell_of_block ((HB.block _ (size_of_block bf)).trans bf) 4
  go_wp2_with fail
  generalize (w5.alloc (.cells #[.int .i64 b1.hours, .int .i64 b1.row, .int .i64 b1.sum, .int .i64 b2.hours, .int .i64 b2.row, .int .i64 b2.sum, .int .i64 E] 78)) = w6 at bx HB cbf0 cbf1 cbf2 cbf3 cbf4 ⊢
  replace bf := (HB.block _ (size_of_block bf)).trans bf
  replace ba := (HB.block _ (size_of_block ba)).trans ba
  replace bb := (HB.block _ (size_of_block bb)).trans bb
  replace hk := hk.later HB
  replace hl := hl.later HB
  replace hB := below_then hB HB
  clear HB
  refine (X3.out w6 hk hl).mono ?_
  rintro e w7 ⟨s1, rfl, hs1, hF⟩
  clear cbf0 cbf1 cbf2 cbf3 cbf4
  replace bf := (hF.block _ (size_of_block bf)).trans bf
  replace ba := (hF.block _ (size_of_block ba)).trans ba
  replace bb := (hF.block _ (size_of_block bb)).trans bb
  replace bx := (hF.block _ (size_of_block bx)).trans bx
  replace hk := hk.later hF
  replace hl := hl.later hF
  replace hB := below_then hB hF
  clear hF
  have hsa := Sl.of_own spnC_len hs1 (by have := HR1.out; have := H3.out; omega)
  clear hs1
  obtain ⟨Ahsa, chsa, rfl⟩ := Sl.form hsa
  have cbf0 := Joins.cell_of_block bf 0
  have cbf1 := Joins.cell_of_block bf 1
  have cbf2 := Joins.cell_of_block bf 2
  have cbf3 := Joins.cell_of_block bf 3
  have cbf4 := Joins.cell_of_block bf 4
  go_wp2_with fail
  refine (X4.out w7 hk hl).mono ?_
  rintro e w8 ⟨s2, rfl, hs2, hF⟩
  clear cbf0 cbf1 cbf2 cbf3 cbf4
  replace bf := (hF.block _ (size_of_block bf)).trans bf
  replace ba := (hF.block _ (size_of_block ba)).trans ba
  replace bb := (hF.block _ (size_of_block bb)).trans bb
  replace bx := (hF.block _ (size_of_block bx)).trans bx
  replace hk := hk.later hF
  replace hl := hl.later hF
  replace hsa := hsa.later hF
  replace hB := below_then hB hF
  clear hF
  have hsb := Sl.of_own spnC_len hs2 (by have := HR1.out; have := H3.out; omega)
  clear hs2
  obtain ⟨Ahsb, chsb, rfl⟩ := Sl.form hsb
  have by_ := heap_alloc_new w8 (.cells #[.slice Ahsb S1.length chsb, .int .i64 E] 84)
  have HB := below_alloc w8 (.cells #[.slice Ahsb S1.length chsb, .int .i64 E] 84)
  have cbf0 := Joins.cell_of_block ((HB.block _ (size_of_block bf)).trans bf) 0
  have cbf1 := Joins.cell_of_block ((HB.block _ (size_of_block bf)).trans bf) 1
  have cbf2 := Joins.cell_of_block ((HB.block _ (size_of_block bf)).trans bf) 2
  have cbf3 := Joins.cell_of_block ((HB.block _ (size_of_block bf)).trans bf) 3
  have cbf4 := Joins.cell_of_block ((HB.block _ (size_of_block bf)).trans bf) 4
  go_wp2_with fail
  generalize (w8.alloc (.cells #[.slice Ahsb S1.length chsb, .int .i64 E] 84)) = w9 at by_ HB cbf0 cbf1 cbf2 cbf3 cbf4 ⊢
  replace bf := (HB.block _ (size_of_block bf)).trans bf
  replace ba := (HB.block _ (size_of_block ba)).trans ba
  replace bb := (HB.block _ (size_of_block bb)).trans bb
  replace bx := (HB.block _ (size_of_block bx)).trans bx
  replace hk := hk.later HB
  replace hl := hl.later HB
  replace hsa := hsa.later HB
  replace hsb := hsb.later HB
  replace hB := below_then hB HB
  clear HB
  refine (X5.out w9 hk hl).mono ?_
  rintro e w10 ⟨s3, rfl, hs3, hF⟩
  clear cbf0 cbf1 cbf2 cbf3 cbf4
  replace bf := (hF.block _ (size_of_block bf)).trans bf
  replace ba := (hF.block _ (size_of_block ba)).trans ba
  replace bb := (hF.block _ (size_of_block bb)).trans bb
  replace bx := (hF.block _ (size_of_block bx)).trans bx
  replace by_ := (hF.block _ (size_of_block by_)).trans by_
  replace hk := hk.later hF
  replace hl := hl.later hF
  replace hsa := hsa.later hF
  replace hsb := hsb.later hF
  replace hB := below_then hB hF
  clear hF
  have hsc := Sl.of_own spnC_len hs3 (by have := HR2.out; have := H3.out; omega)
  clear hs3
  obtain ⟨Ahsc, chsc, rfl⟩ := Sl.form hsc
  have cbf0 := Joins.cell_of_block bf 0
  have cbf1 := Joins.cell_of_block bf 1
  have cbf2 := Joins.cell_of_block bf 2
  have cbf3 := Joins.cell_of_block bf 3
  have cbf4 := Joins.cell_of_block bf 4
  go_wp2_with fail
  refine (X6.out w10 hk hl).mono ?_
  rintro e w11 ⟨s4, rfl, hs4, hF⟩
  clear cbf0 cbf1 cbf2 cbf3 cbf4
  replace bf := (hF.block _ (size_of_block bf)).trans bf
  replace ba := (hF.block _ (size_of_block ba)).trans ba
  replace bb := (hF.block _ (size_of_block bb)).trans bb
  replace bx := (hF.block _ (size_of_block bx)).trans bx
  replace by_ := (hF.block _ (size_of_block by_)).trans by_
  replace hk := hk.later hF
  replace hl := hl.later hF
  replace hsa := hsa.later hF
  replace hsb := hsb.later hF
  replace hsc := hsc.later hF
  replace hB := below_then hB hF
  clear hF
  have hsd := Sl.of_own spnC_len hs4 (by have := HR2.out; have := H3.out; omega)
  clear hs4
  obtain ⟨Ahsd, chsd, rfl⟩ := Sl.form hsd
  have bz := heap_alloc_new w11 (.cells #[.slice Ahsd S2.length chsd, .int .i64 E] 84)
  have HB := below_alloc w11 (.cells #[.slice Ahsd S2.length chsd, .int .i64 E] 84)
  go_wp2_with fail
  generalize (w11.alloc (.cells #[.slice Ahsd S2.length chsd, .int .i64 E] 84)) = w12 at bz HB  ⊢
  replace bf := (HB.block _ (size_of_block bf)).trans bf
  replace ba := (HB.block _ (size_of_block ba)).trans ba
  replace bb := (HB.block _ (size_of_block bb)).trans bb
  replace bx := (HB.block _ (size_of_block bx)).trans bx
  replace by_ := (HB.block _ (size_of_block by_)).trans by_
  replace hk := hk.later HB
  replace hl := hl.later HB
  replace hsa := hsa.later HB
  replace hsb := hsb.later HB
  replace hsc := hsc.later HB
  replace hsd := hsd.later HB
  replace hB := below_then hB HB
  clear HB
  refine (X7.out w12 hl).mono ?_
  rintro e w13 ⟨rfl, hF⟩
  replace bf := (hF.block _ (size_of_block bf)).trans bf
  replace ba := (hF.block _ (size_of_block ba)).trans ba
  replace bb := (hF.block _ (size_of_block bb)).trans bb
  replace bx := (hF.block _ (size_of_block bx)).trans bx
  replace by_ := (hF.block _ (size_of_block by_)).trans by_
  replace bz := (hF.block _ (size_of_block bz)).trans bz
  replace hk := hk.later hF
  replace hl := hl.later hF
  replace hsa := hsa.later hF
  replace hsb := hsb.later hF
  replace hsc := hsc.later hF
  replace hsd := hsd.later hF
  replace hB := below_then hB hF
  clear hF
  go_wp2_with fail
  refine (X8.out w13 hl).mono ?_
  rintro e w14 ⟨rfl, hF⟩
  replace bf := (hF.block _ (size_of_block bf)).trans bf
  replace ba := (hF.block _ (size_of_block ba)).trans ba
  replace bb := (hF.block _ (size_of_block bb)).trans bb
  replace bx := (hF.block _ (size_of_block bx)).trans bx
  replace by_ := (hF.block _ (size_of_block by_)).trans by_
  replace bz := (hF.block _ (size_of_block bz)).trans bz
  replace hk := hk.later hF
  replace hl := hl.later hF
  replace hsa := hsa.later hF
  replace hsb := hsb.later hF
  replace hsc := hsc.later hF
  replace hsd := hsd.later hF
  replace hB := below_then hB hF
  clear hF
  have heq1 := fun W => Tryz.eqBr b1.hours b1.row b1.sum b1.hours b1.row b1.sum W
  have heq2 := fun W => Tryz.eqBr b2.hours b2.row b2.sum b2.hours b2.row b2.sum W
  simp only [beq_self_eq_true, Bool.and_self] at heq1 heq2
  have cba0 := Joins.cell_of_block ba 0
  have cba1 := Joins.cell_of_block ba 1
  have cba2 := Joins.cell_of_block ba 2
  have cbb0 := Joins.cell_of_block bb 0
  have cbb1 := Joins.cell_of_block bb 1
  have cbb2 := Joins.cell_of_block bb 2
  have cbx0 := Joins.cell_of_block bx 0
  have cbx1 := Joins.cell_of_block bx 1
  have cbx2 := Joins.cell_of_block bx 2
  have cbx3 := Joins.cell_of_block bx 3
  have cbx4 := Joins.cell_of_block bx 4
  have cbx5 := Joins.cell_of_block bx 5
  have cbx6 := Joins.cell_of_block bx 6
  go_wp2_with fail
  refine (sanity_c w14).mono ?_
  rintro e w15 ⟨rfl, hF⟩
  clear cba0 cba1 cba2 cbb0 cbb1 cbb2 cbx0 cbx1 cbx2 cbx3 cbx4 cbx5 cbx6
  replace bf := (hF.block _ (size_of_block bf)).trans bf
  replace ba := (hF.block _ (size_of_block ba)).trans ba
  replace bb := (hF.block _ (size_of_block bb)).trans bb
  replace bx := (hF.block _ (size_of_block bx)).trans bx
  replace by_ := (hF.block _ (size_of_block by_)).trans by_
  replace bz := (hF.block _ (size_of_block bz)).trans bz
  replace hk := hk.later hF
  replace hl := hl.later hF
  replace hsa := hsa.later hF
  replace hsb := hsb.later hF
  replace hsc := hsc.later hF
  replace hsd := hsd.later hF
  replace hB := below_then hB hF
  clear hF
  clear ba bb bx
  have cby_0 := Joins.cell_of_block by_ 0
  have cby_1 := Joins.cell_of_block by_ 1
  go_wp2_with fail
  refine (sameSpans_c _ _ S1 S1 w15 hsa hsb).mono ?_
  rintro e w16 ⟨rfl, hF⟩
  clear cby_0 cby_1
  replace bf := (hF.block _ (size_of_block bf)).trans bf
  replace by_ := (hF.block _ (size_of_block by_)).trans by_
  replace bz := (hF.block _ (size_of_block bz)).trans bz
  replace hk := hk.later hF
  replace hl := hl.later hF
  replace hsa := hsa.later hF
  replace hsb := hsb.later hF
  replace hsc := hsc.later hF
  replace hsd := hsd.later hF
  replace hB := below_then hB hF
  clear hF
  rw [decide_eq_true rfl]
  have cby_0 := Joins.cell_of_block by_ 0
  have cby_1 := Joins.cell_of_block by_ 1
  have cbz0 := Joins.cell_of_block bz 0
  have cbz1 := Joins.cell_of_block bz 1
  go_wp2_with fail
  refine (sameSpans_c _ _ S2 S2 w16 hsc hsd).mono ?_
  rintro e w17 ⟨rfl, hF⟩
  clear cby_0 cby_1 cbz0 cbz1
  replace bf := (hF.block _ (size_of_block bf)).trans bf
  replace by_ := (hF.block _ (size_of_block by_)).trans by_
  replace bz := (hF.block _ (size_of_block bz)).trans bz
  replace hk := hk.later hF
  replace hl := hl.later hF
  replace hsa := hsa.later hF
  replace hsb := hsb.later hF
  replace hsc := hsc.later hF
  replace hsd := hsd.later hF
  replace hB := below_then hB hF
  clear hF
  rw [decide_eq_true rfl]
  have cbz0 := Joins.cell_of_block bz 0
  have cbz1 := Joins.cell_of_block bz 1
  go_wp2_with fail
  go_ret
  exact ⟨rfl, hB⟩
theorem FirePaths_big1 (f : Fi) (vl : Value) (A1 : Option Addr) (n1 cap1 : Nat) (need : Int) (w : World) (hk : Lks w w.heap.size vl f.ls) (h1 : 230 < n1) : Calls Tryz.prog 6 #[fiV f vl, .slice A1 n1 cap1, .int .i64 need] w fun e w' => e = .returned (.bool true) ∧ Below w.heap.size w w' := by
  obtain ⟨A, cap, rfl⟩ := hk.form
  cases hfew : fewB f.ls.length with
  | false => exact FirePaths_no f A _ cap _ need w hfew
  | true => exact FirePaths_l1 f A cap A1 n1 cap1 (by unfold pathB; rw [decide_eq_false (by omega), decide_eq_false (show ¬ n1 ≤ 230 by omega), Bool.and_false]; rfl) need w hfew
theorem FirePaths_w (f : Fi) (vl v1 : Value) (l : List Spt) (need : Int) (w : World) (hk : Lks w w.heap.size vl f.ls) (hl : Spts w w.heap.size v1 l) : Calls Tryz.prog 6 #[fiV f vl, v1, .int .i64 need] w fun e w' => e = .returned (.bool true) ∧ Below w.heap.size w w' := by
  obtain ⟨A1, cap1, rfl⟩ := Sl.form hl
  obtain ⟨A, cap, rfl⟩ := hk.form
  cases hfew : fewB f.ls.length with
  | false => exact FirePaths_no f A _ cap _ need w hfew
  | true =>
    cases h1 : pathB l.length with
    | false => exact FirePaths_l1 f A cap A1 _ cap1 h1 need w hfew
    | true => exact FirePaths_a f A A1 cap cap1 l need w hk hl hfew h1
end Go.Proofs.YtjpoacffnpgjdaaGreat
