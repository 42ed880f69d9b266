/- FireFields: Coolest, Hottest and Fits return what the reference returns (written by tools/genfields.py). -/
import Derived.Test.YtjpoacffnpgjdaaGreatJ21
import Derived.Test.YtjpoacffnpgjdaaGreatJ24
import Derived.Test.YtjpoacffnpgjdaaGreatJ38
namespace Go.Proofs.YtjpoacffnpgjdaaGreat
open Go Go.RowKit Go.Shelf
attribute [local go_sem] Oper.semAt_some Rel RelAt RelUpon
theorem cool_len {f : Fi} {l : List Spt} : (coolR f l).length ≤ l.length ∧ (hotR f l).length ≤ l.length := by
  unfold coolR hotR
  constructor <;> split <;> simp
set_option maxRecDepth 100000 in
set_option maxHeartbeats 8000000 in
theorem FireFields_no (f : Fi) (A : Option Addr) (n cap : Nat) (v1 v2 : Value) (w : World) (h : fewB n = false) : Calls Tryz.prog 5 #[fiV f (.slice A n cap), v1, v2] w fun e w' => e = .returned (.bool true) ∧ Below w.heap.size w w' := by
  unfold fiV
  go_enter Tryz.func5, Tryz.ntmps5
  have bf := heap_alloc_new w (.cells #[.int .i64 f.rise, .int .i64 f.fall, .int .i64 f.up, .int .i64 f.down, .slice A n cap] 24)
  have HB := below_alloc w (.cells #[.int .i64 f.rise, .int .i64 f.fall, .int .i64 f.up, .int .i64 f.down, .slice A n cap] 24)
  go_wp2_with fail
  generalize (w.alloc (.cells #[.int .i64 f.rise, .int .i64 f.fall, .int .i64 f.up, .int .i64 f.down, .slice A n cap] 24)) = w1 at bf HB  ⊢
  have hB := HB
  clear HB
  refine (few_c f A n cap _).mono ?_
  rintro e w2 ⟨rfl, hF⟩
  replace bf := (hF.block _ (size_of_block bf)).trans bf
  replace hB := below_then hB hF
  clear hF
  rw [h]
  go_wp2_with fail
  refine (sanity_c _).mono ?_
  rintro e w3 ⟨rfl, hF⟩
  replace bf := (hF.block _ (size_of_block bf)).trans bf
  replace hB := below_then hB hF
  clear hF
  go_wp2_with fail
  go_ret
  exact ⟨rfl, hB⟩
set_option maxRecDepth 100000 in
set_option maxHeartbeats 8000000 in
theorem FireFields_l1 (f : Fi) (A : Option Addr) (cap : Nat) (A1 : Option Addr) (n1 cap1 : Nat) (v2 : Value) (h1 : shortB n1 = false) (w : World) (hfew : fewB f.ls.length = true) : Calls Tryz.prog 5 #[fiV f (.slice A f.ls.length cap), (.slice A1 n1 cap1), v2] w fun e w' => e = .returned (.bool true) ∧ Below w.heap.size w w' := by
  unfold fiV
  go_enter Tryz.func5, Tryz.ntmps5
  have bf := heap_alloc_new w (.cells #[.int .i64 f.rise, .int .i64 f.fall, .int .i64 f.up, .int .i64 f.down, .slice A f.ls.length cap] 24)
  have HB := below_alloc w (.cells #[.int .i64 f.rise, .int .i64 f.fall, .int .i64 f.up, .int .i64 f.down, .slice A f.ls.length cap] 24)
  go_wp2_with fail
  generalize (w.alloc (.cells #[.int .i64 f.rise, .int .i64 f.fall, .int .i64 f.up, .int .i64 f.down, .slice A f.ls.length cap] 24)) = w1 at bf HB  ⊢
  have hB := HB
  clear HB
  refine (few_c f A f.ls.length cap _).mono ?_
  rintro e w2 ⟨rfl, hF⟩
  replace bf := (hF.block _ (size_of_block bf)).trans bf
  replace hB := below_then hB hF
  clear hF
  rw [hfew]
  go_wp2_with fail
  refine (short_c A1 n1 cap1 _).mono ?_
  rintro e w' ⟨rfl, rfl⟩
  rw [h1]
  go_wp2_with fail
  refine (sanity_c _).mono ?_
  rintro e w3 ⟨rfl, hF⟩
  replace bf := (hF.block _ (size_of_block bf)).trans bf
  replace hB := below_then hB hF
  clear hF
  go_wp2_with fail
  go_ret
  exact ⟨rfl, hB⟩
set_option maxRecDepth 100000 in
set_option maxHeartbeats 8000000 in
theorem FireFields_l2 (f : Fi) (A : Option Addr) (cap : Nat) (A1 A2 : Option Addr) (n1 cap1 n2 cap2 : Nat) (h1 : shortB n1 = true) (h2 : 40 < n2) (w : World) (hfew : fewB f.ls.length = true) : Calls Tryz.prog 5 #[fiV f (.slice A f.ls.length cap), (.slice A1 n1 cap1), (.slice A2 n2 cap2)] w fun e w' => e = .returned (.bool true) ∧ Below w.heap.size w w' := by
  unfold fiV
  go_enter Tryz.func5, Tryz.ntmps5
  have bf := heap_alloc_new w (.cells #[.int .i64 f.rise, .int .i64 f.fall, .int .i64 f.up, .int .i64 f.down, .slice A f.ls.length cap] 24)
  have HB := below_alloc w (.cells #[.int .i64 f.rise, .int .i64 f.fall, .int .i64 f.up, .int .i64 f.down, .slice A f.ls.length cap] 24)
  go_wp2_with fail
  generalize (w.alloc (.cells #[.int .i64 f.rise, .int .i64 f.fall, .int .i64 f.up, .int .i64 f.down, .slice A f.ls.length cap] 24)) = w1 at bf HB  ⊢
  have hB := HB
  clear HB
  refine (few_c f A f.ls.length cap _).mono ?_
  rintro e w2 ⟨rfl, hF⟩
  replace bf := (hF.block _ (size_of_block bf)).trans bf
  replace hB := below_then hB hF
  clear hF
  rw [hfew]
  have d2 : decide ((n2 : Int) > 40) = true := decide_eq_true (by omega)
  clear h2
  go_wp2_with fail
  refine (short_c A1 n1 cap1 _).mono ?_
  rintro e w' ⟨rfl, rfl⟩
  rw [h1]
  go_wp2_with fail
  refine (sanity_c _).mono ?_
  rintro e w3 ⟨rfl, hF⟩
  replace bf := (hF.block _ (size_of_block bf)).trans bf
  replace hB := below_then hB hF
  clear hF
  go_wp2_with fail
  go_ret
  exact ⟨rfl, hB⟩
set_option maxRecDepth 100000 in
set_option maxHeartbeats 8000000 in
theorem FireFields_a (f : Fi) (A A1 A2 : Option Addr) (cap cap1 cap2 : Nat) (l : List Spt) (hs : List Int) (w : World) (hk : Lks w w.heap.size (.slice A f.ls.length cap) f.ls) (hl : Spts w w.heap.size (.slice A1 l.length cap1) l) (hh : Ints w w.heap.size (.slice A2 hs.length cap2) hs) (hfew : fewB f.ls.length = true) (h1 : shortB l.length = true) (h2 : hs.length ≤ 40) : Calls Tryz.prog 5 #[fiV f (.slice A f.ls.length cap), (.slice A1 l.length cap1), (.slice A2 hs.length cap2)] w fun e w' => e = .returned (.bool true) ∧ Below w.heap.size w w' := by
  have x1 := fun W h hl => Coolest_c f (.slice A f.ls.length cap) (.slice A1 l.length cap1) l W h hl
  have x2 := fun W h hl => CoolestR_c f (.slice A f.ls.length cap) (.slice A1 l.length cap1) l W h hl
  have x3 := fun W h hl => Hottest_c f (.slice A f.ls.length cap) (.slice A1 l.length cap1) l W h hl
  have x4 := fun W h hl => HottestR_c f (.slice A f.ls.length cap) (.slice A1 l.length cap1) l W h hl
  have x5 := fun W h hl hh => Fits_c f (.slice A f.ls.length cap) (.slice A1 l.length cap1) (.slice A2 hs.length cap2) l hs W h hl hh
  have x6 := fun W h hl hh => FitsR_c f (.slice A f.ls.length cap) (.slice A1 l.length cap1) (.slice A2 hs.length cap2) l hs W h hl hh
  obtain ⟨r1, r2⟩ := cool_len (f := f) (l := l)
  have h40 : l.length ≤ 40 := by unfold shortB at h1; simp only [Bool.or_eq_true, Bool.and_eq_true, decide_eq_true_eq] at h1; omega
  generalize listE f l = E at x1 x2 x3 x4
  generalize coolR f l = L1 at x1 x2 r1
  generalize hotR f l = L2 at x3 x4 r2
  generalize fitsE f l hs = E2 at x5 x6
  generalize fitsR f l hs = B2 at x5 x6
  have HR1 := Lib.hid r1
  have HR2 := Lib.hid r2
  have H3 := Lib.hid h40
  clear r1 r2 h40
  have d2 : decide ((hs.length : Int) > 40) = false := decide_eq_false (by omega)
  clear h2
  have X1 := Lib.hid x1
  have X2 := Lib.hid x2
  have X3 := Lib.hid x3
  have X4 := Lib.hid x4
  have X5 := Lib.hid x5
  have X6 := Lib.hid x6
  clear x1 x2 x3 x4 x5 x6
  have HK := Lib.hid hk
  have HL := Lib.hid hl
  have HH := Lib.hid hh
  clear hk hl hh
  unfold fiV
  go_enter Tryz.func5, Tryz.ntmps5
  have bf := heap_alloc_new w (.cells #[.int .i64 f.rise, .int .i64 f.fall, .int .i64 f.up, .int .i64 f.down, .slice A f.ls.length cap] 24)
  have HB := below_alloc w (.cells #[.int .i64 f.rise, .int .i64 f.fall, .int .i64 f.up, .int .i64 f.down, .slice A f.ls.length cap] 24)
  go_wp2_with fail
  generalize (w.alloc (.cells #[.int .i64 f.rise, .int .i64 f.fall, .int .i64 f.up, .int .i64 f.down, .slice A f.ls.length cap] 24)) = w1 at bf HB  ⊢
  have hB := HB
  clear HB
  have hk := HK.out.later hB
  have hl := HL.out.later hB
  have hh := HH.out.later hB
  refine (few_c f A f.ls.length cap _).mono ?_
  rintro e w2 ⟨rfl, hF⟩
  replace bf := (hF.block _ (size_of_block bf)).trans bf
  replace hk := hk.later hF
  replace hl := hl.later hF
  replace hh := hh.later hF
  replace hB := below_then hB hF
  clear hF
  rw [hfew]
  go_wp2_with fail
  refine (short_c A1 l.length cap1 _).mono ?_
  rintro e w' ⟨rfl, rfl⟩
  rw [h1]
  have cbf0 := Joins.cell_of_block bf 0
  have cbf1 := Joins.cell_of_block bf 1
  have cbf2 := Joins.cell_of_block bf 2
  have cbf3 := Joins.cell_of_block bf 3
  have cbf4 := Joins.cell_of_block bf 4
  go_wp2_with fail
  refine (X1.out w2 hk hl).mono ?_
  rintro e w3 ⟨s1, rfl, hs1, hF⟩
  clear cbf0 cbf1 cbf2 cbf3 cbf4
  replace bf := (hF.block _ (size_of_block bf)).trans bf
  replace hk := hk.later hF
  replace hl := hl.later hF
  replace hh := hh.later hF
  replace hB := below_then hB hF
  clear hF
  have hsa := Ints.of_own hs1 (by have := HR1.out; have := H3.out; omega)
  clear hs1
  obtain ⟨Ahsa, chsa, rfl⟩ := Sl.form hsa
  have cbf0 := Joins.cell_of_block bf 0
  have cbf1 := Joins.cell_of_block bf 1
  have cbf2 := Joins.cell_of_block bf 2
  have cbf3 := Joins.cell_of_block bf 3
  have cbf4 := Joins.cell_of_block bf 4
  go_wp2_with fail
  refine (X2.out w3 hk hl).mono ?_
  rintro e w4 ⟨s2, rfl, hs2, hF⟩
  clear cbf0 cbf1 cbf2 cbf3 cbf4
  replace bf := (hF.block _ (size_of_block bf)).trans bf
  replace hk := hk.later hF
  replace hl := hl.later hF
  replace hh := hh.later hF
  replace hsa := hsa.later hF
  replace hB := below_then hB hF
  clear hF
  have hsb := Ints.of_own hs2 (by have := HR1.out; have := H3.out; omega)
  clear hs2
  obtain ⟨Ahsb, chsb, rfl⟩ := Sl.form hsb
  have bx := heap_alloc_new w4 (.cells #[.slice Ahsb L1.length chsb, .int .i64 E] 41)
  have HB := below_alloc w4 (.cells #[.slice Ahsb L1.length chsb, .int .i64 E] 41)
  have cbf0 := Joins.cell_of_block ((HB.block _ (size_of_block bf)).trans bf) 0
  have cbf1 := Joins.cell_of_block ((HB.block _ (size_of_block bf)).trans bf) 1
  have cbf2 := Joins.cell_of_block ((HB.block _ (size_of_block bf)).trans bf) 2
  have cbf3 := Joins.cell_of_block ((HB.block _ (size_of_block bf)).trans bf) 3
  have cbf4 := Joins.cell_of_block ((HB.block _ (size_of_block bf)).trans bf) 4
  go_wp2_with fail
  generalize (w4.alloc (.cells #[.slice Ahsb L1.length chsb, .int .i64 E] 41)) = w5 at bx HB cbf0 cbf1 cbf2 cbf3 cbf4 ⊢
  replace bf := (HB.block _ (size_of_block bf)).trans bf
  replace hk := hk.later HB
  replace hl := hl.later HB
  replace hh := hh.later HB
  replace hsa := hsa.later HB
  replace hsb := hsb.later HB
  replace hB := below_then hB HB
  clear HB
  refine (X3.out w5 hk hl).mono ?_
  rintro e w6 ⟨s3, rfl, hs3, hF⟩
  clear cbf0 cbf1 cbf2 cbf3 cbf4
  replace bf := (hF.block _ (size_of_block bf)).trans bf
  replace bx := (hF.block _ (size_of_block bx)).trans bx
  replace hk := hk.later hF
  replace hl := hl.later hF
  replace hh := hh.later hF
  replace hsa := hsa.later hF
  replace hsb := hsb.later hF
  replace hB := below_then hB hF
  clear hF
  have hsc := Ints.of_own hs3 (by have := HR2.out; have := H3.out; omega)
  clear hs3
  obtain ⟨Ahsc, chsc, rfl⟩ := Sl.form hsc
  have cbf0 := Joins.cell_of_block bf 0
  have cbf1 := Joins.cell_of_block bf 1
  have cbf2 := Joins.cell_of_block bf 2
  have cbf3 := Joins.cell_of_block bf 3
  have cbf4 := Joins.cell_of_block bf 4
  go_wp2_with fail
  refine (X4.out w6 hk hl).mono ?_
  rintro e w7 ⟨s4, rfl, hs4, hF⟩
  clear cbf0 cbf1 cbf2 cbf3 cbf4
  replace bf := (hF.block _ (size_of_block bf)).trans bf
  replace bx := (hF.block _ (size_of_block bx)).trans bx
  replace hk := hk.later hF
  replace hl := hl.later hF
  replace hh := hh.later hF
  replace hsa := hsa.later hF
  replace hsb := hsb.later hF
  replace hsc := hsc.later hF
  replace hB := below_then hB hF
  clear hF
  have hsd := Ints.of_own hs4 (by have := HR2.out; have := H3.out; omega)
  clear hs4
  obtain ⟨Ahsd, chsd, rfl⟩ := Sl.form hsd
  have bz := heap_alloc_new w7 (.cells #[.slice Ahsd L2.length chsd, .int .i64 E] 41)
  have HB := below_alloc w7 (.cells #[.slice Ahsd L2.length chsd, .int .i64 E] 41)
  have cbf0 := Joins.cell_of_block ((HB.block _ (size_of_block bf)).trans bf) 0
  have cbf1 := Joins.cell_of_block ((HB.block _ (size_of_block bf)).trans bf) 1
  have cbf2 := Joins.cell_of_block ((HB.block _ (size_of_block bf)).trans bf) 2
  have cbf3 := Joins.cell_of_block ((HB.block _ (size_of_block bf)).trans bf) 3
  have cbf4 := Joins.cell_of_block ((HB.block _ (size_of_block bf)).trans bf) 4
  go_wp2_with fail
  generalize (w7.alloc (.cells #[.slice Ahsd L2.length chsd, .int .i64 E] 41)) = w8 at bz HB cbf0 cbf1 cbf2 cbf3 cbf4 ⊢
  replace bf := (HB.block _ (size_of_block bf)).trans bf
  replace bx := (HB.block _ (size_of_block bx)).trans bx
  replace hk := hk.later HB
  replace hl := hl.later HB
  replace hh := hh.later HB
  replace hsa := hsa.later HB
  replace hsb := hsb.later HB
  replace hsc := hsc.later HB
  replace hsd := hsd.later HB
  replace hB := below_then hB HB
  clear HB
  refine (X5.out w8 hk hl hh).mono ?_
  rintro e w9 ⟨rfl, hF⟩
  clear cbf0 cbf1 cbf2 cbf3 cbf4
  replace bf := (hF.block _ (size_of_block bf)).trans bf
  replace bx := (hF.block _ (size_of_block bx)).trans bx
  replace bz := (hF.block _ (size_of_block bz)).trans bz
  replace hk := hk.later hF
  replace hl := hl.later hF
  replace hh := hh.later hF
  replace hsa := hsa.later hF
  replace hsb := hsb.later hF
  replace hsc := hsc.later hF
  replace hsd := hsd.later hF
  replace hB := below_then hB hF
  clear hF
  have cbf0 := Joins.cell_of_block bf 0
  have cbf1 := Joins.cell_of_block bf 1
  have cbf2 := Joins.cell_of_block bf 2
  have cbf3 := Joins.cell_of_block bf 3
  have cbf4 := Joins.cell_of_block bf 4
  go_wp2_with fail
  refine (X6.out w9 hk hl hh).mono ?_
  rintro e w10 ⟨rfl, hF⟩
  clear cbf0 cbf1 cbf2 cbf3 cbf4
  replace bf := (hF.block _ (size_of_block bf)).trans bf
  replace bx := (hF.block _ (size_of_block bx)).trans bx
  replace bz := (hF.block _ (size_of_block bz)).trans bz
  replace hk := hk.later hF
  replace hl := hl.later hF
  replace hh := hh.later hF
  replace hsa := hsa.later hF
  replace hsb := hsb.later hF
  replace hsc := hsc.later hF
  replace hsd := hsd.later hF
  replace hB := below_then hB hF
  clear hF
  go_wp2_with fail
  refine (sanity_c w10).mono ?_
  rintro e w11 ⟨rfl, hF⟩
  replace bf := (hF.block _ (size_of_block bf)).trans bf
  replace bx := (hF.block _ (size_of_block bx)).trans bx
  replace bz := (hF.block _ (size_of_block bz)).trans bz
  replace hk := hk.later hF
  replace hl := hl.later hF
  replace hh := hh.later hF
  replace hsa := hsa.later hF
  replace hsb := hsb.later hF
  replace hsc := hsc.later hF
  replace hsd := hsd.later hF
  replace hB := below_then hB hF
  clear hF
  have cbx0 := Joins.cell_of_block bx 0
  have cbx1 := Joins.cell_of_block bx 1
  go_wp2_with fail
  refine (sameInts_c _ _ L1 L1 w11 hsa hsb).mono ?_
  rintro e w12 ⟨rfl, hF⟩
  clear cbx0 cbx1
  replace bf := (hF.block _ (size_of_block bf)).trans bf
  replace bx := (hF.block _ (size_of_block bx)).trans bx
  replace bz := (hF.block _ (size_of_block bz)).trans bz
  replace hk := hk.later hF
  replace hl := hl.later hF
  replace hh := hh.later hF
  replace hsa := hsa.later hF
  replace hsb := hsb.later hF
  replace hsc := hsc.later hF
  replace hsd := hsd.later hF
  replace hB := below_then hB hF
  clear hF
  rw [decide_eq_true rfl]
  have cbx0 := Joins.cell_of_block bx 0
  have cbx1 := Joins.cell_of_block bx 1
  have cbz0 := Joins.cell_of_block bz 0
  have cbz1 := Joins.cell_of_block bz 1
  go_wp2_with fail
  refine (sameInts_c _ _ L2 L2 w12 hsc hsd).mono ?_
  rintro e w13 ⟨rfl, hF⟩
  clear cbx0 cbx1 cbz0 cbz1
  replace bf := (hF.block _ (size_of_block bf)).trans bf
  replace bx := (hF.block _ (size_of_block bx)).trans bx
  replace bz := (hF.block _ (size_of_block bz)).trans bz
  replace hk := hk.later hF
  replace hl := hl.later hF
  replace hh := hh.later hF
  replace hsa := hsa.later hF
  replace hsb := hsb.later hF
  replace hsc := hsc.later hF
  replace hsd := hsd.later hF
  replace hB := below_then hB hF
  clear hF
  rw [decide_eq_true rfl]
  have cbz0 := Joins.cell_of_block bz 0
  have cbz1 := Joins.cell_of_block bz 1
  go_wp2_with fail
  go_ret
  exact ⟨rfl, hB⟩
theorem FireFields_big1 (f : Fi) (vl : Value) (A1 : Option Addr) (n1 cap1 : Nat) (v2 : Value) (w : World) (hk : Lks w w.heap.size vl f.ls) (h1 : 40 < n1) : Calls Tryz.prog 5 #[fiV f vl, .slice A1 n1 cap1, v2] w fun e w' => e = .returned (.bool true) ∧ Below w.heap.size w w' := by
  obtain ⟨A, cap, rfl⟩ := hk.form
  cases hfew : fewB f.ls.length with
  | false => exact FireFields_no f A _ cap _ _ w hfew
  | true => exact FireFields_l1 f A cap A1 n1 cap1 v2 (by unfold shortB; rw [decide_eq_false (by omega), decide_eq_false (show ¬ n1 ≤ 40 by omega), Bool.and_false]; rfl) w hfew
theorem FireFields_big2 (f : Fi) (vl v1 : Value) (l : List Spt) (A2 : Option Addr) (n2 cap2 : Nat) (w : World) (hk : Lks w w.heap.size vl f.ls) (hl : Spts w w.heap.size v1 l) (h2 : 40 < n2) : Calls Tryz.prog 5 #[fiV f vl, v1, .slice A2 n2 cap2] w fun e w' => e = .returned (.bool true) ∧ Below w.heap.size w w' := by
  obtain ⟨A1, cap1, rfl⟩ := Sl.form hl
  obtain ⟨A, cap, rfl⟩ := hk.form
  cases hfew : fewB f.ls.length with
  | false => exact FireFields_no f A _ cap _ _ w hfew
  | true =>
    cases h1 : shortB l.length with
    | false => exact FireFields_l1 f A cap A1 _ cap1 _ h1 w hfew
    | true => exact FireFields_l2 f A cap A1 A2 _ cap1 n2 cap2 h1 h2 w hfew
theorem FireFields_w (f : Fi) (vl v1 : Value) (l : List Spt) (v2 : Value) (hs : List Int) (w : World) (hk : Lks w w.heap.size vl f.ls) (hl : Spts w w.heap.size v1 l) (hh : Ints w w.heap.size v2 hs) : Calls Tryz.prog 5 #[fiV f vl, v1, v2] w fun e w' => e = .returned (.bool true) ∧ Below w.heap.size w w' := by
  obtain ⟨A2, cap2, rfl⟩ := Sl.form hh
  by_cases h2 : 40 < hs.length
  · exact FireFields_big2 f vl v1 l A2 _ cap2 w hk hl h2
  · obtain ⟨A1, cap1, rfl⟩ := Sl.form hl
    obtain ⟨A, cap, rfl⟩ := hk.form
    cases hfew : fewB f.ls.length with
    | false => exact FireFields_no f A _ cap _ _ w hfew
    | true =>
      cases h1 : shortB l.length with
      | false => exact FireFields_l1 f A cap A1 _ cap1 _ h1 w hfew
      | true => exact FireFields_a f A A1 A2 cap cap1 cap2 l hs w hk hl hh hfew h1 (by omega)
end Go.Proofs.YtjpoacffnpgjdaaGreat
