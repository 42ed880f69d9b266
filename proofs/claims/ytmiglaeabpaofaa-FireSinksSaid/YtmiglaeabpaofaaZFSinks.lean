/- FireSinks: heats that fit burn between the ends of Burnt, Surely and Possibly; with a greater need nothing is more (written by tools/gensinks.py). -/
import Derived.Test.YtmiglaeabpaofaaZFLawK
import Derived.Test.YtmiglaeabpaofaaZFSnkM
import Derived.Test.YtmiglaeabpaofaaZFSinkK
import Derived.Test.YtmiglaeabpaofaaZFProgFits
import Derived.Test.YtmiglaeabpaofaaJ18
import Derived.Lib.MinMax
namespace Go.Proofs.Ytmiglaeabpaofaa
open Go Go.RowKit Go.Shelf
attribute [local go_sem] Oper.semAt_some Rel RelAt RelUpon
set_option maxRecDepth 100000 in
set_option maxHeartbeats 4000000 in
theorem FireSinks_no (f : Fi) (A : Option Addr) (n cap : Nat) (v1 v2 : Value) (need : Int) (t : Nat) (w : World) (h : fewB n = false) : Calls Try.prog 6 #[fiV f (.slice A n cap), v1, v2, .int .i64 need, .int .u8 t] w fun e w' => e = .returned (.bool true) ∧ Below w.heap.size w w' := by
  unfold fiV
  go_enter Try.func6, Try.ntmps6
  have bf := heap_alloc_new w (.cells #[.int .i64 f.rise, .int .i64 f.fall, .int .i64 f.up, .int .i64 f.down, .slice A n cap] 24)
  have HB := below_alloc w (.cells #[.int .i64 f.rise, .int .i64 f.fall, .int .i64 f.up, .int .i64 f.down, .slice A n cap] 24)
  go_wp2_with fail
  generalize (w.alloc (.cells #[.int .i64 f.rise, .int .i64 f.fall, .int .i64 f.up, .int .i64 f.down, .slice A n cap] 24)) = w1 at bf HB  ⊢
  have hB := HB
  clear HB
  refine (few_c f A n cap _).mono ?_
  rintro e w2 ⟨rfl, hF⟩
  replace bf := (hF.block _ (size_of_block bf)).trans bf
  replace hB := below_then hB hF
  clear hF
  rw [h]
  go_wp2_with fail
  refine (sanity_c _).mono ?_
  rintro e w3 ⟨rfl, hF⟩
  replace bf := (hF.block _ (size_of_block bf)).trans bf
  replace hB := below_then hB hF
  clear hF
  go_wp2_with fail
  go_ret
  exact ⟨rfl, hB⟩
set_option maxRecDepth 100000 in
set_option maxHeartbeats 4000000 in
theorem FireSinks_l1 (f : Fi) (A : Option Addr) (cap : Nat) (A1 : Option Addr) (n1 cap1 : Nat) (v2 : Value) (h1 : 20 < n1) (need : Int) (t : Nat) (w : World) (hfew : fewB f.ls.length = true) : Calls Try.prog 6 #[fiV f (.slice A f.ls.length cap), (.slice A1 n1 cap1), v2, .int .i64 need, .int .u8 t] w fun e w' => e = .returned (.bool true) ∧ Below w.heap.size w w' := by
  unfold fiV
  go_enter Try.func6, Try.ntmps6
  have bf := heap_alloc_new w (.cells #[.int .i64 f.rise, .int .i64 f.fall, .int .i64 f.up, .int .i64 f.down, .slice A f.ls.length cap] 24)
  have HB := below_alloc w (.cells #[.int .i64 f.rise, .int .i64 f.fall, .int .i64 f.up, .int .i64 f.down, .slice A f.ls.length cap] 24)
  go_wp2_with fail
  generalize (w.alloc (.cells #[.int .i64 f.rise, .int .i64 f.fall, .int .i64 f.up, .int .i64 f.down, .slice A f.ls.length cap] 24)) = w1 at bf HB  ⊢
  have hB := HB
  clear HB
  refine (few_c f A f.ls.length cap _).mono ?_
  rintro e w2 ⟨rfl, hF⟩
  replace bf := (hF.block _ (size_of_block bf)).trans bf
  replace hB := below_then hB hF
  clear hF
  rw [hfew]
  have d1 : decide ((20 : Int) < n1) = true := decide_eq_true (by omega)
  go_wp2_with fail
  refine (sanity_c _).mono ?_
  rintro e w3 ⟨rfl, hF⟩
  replace bf := (hF.block _ (size_of_block bf)).trans bf
  replace hB := below_then hB hF
  clear hF
  go_wp2_with fail
  go_ret
  exact ⟨rfl, hB⟩
set_option maxRecDepth 100000 in
set_option maxHeartbeats 4000000 in
theorem FireSinks_l2 (f : Fi) (A : Option Addr) (cap : Nat) (A1 A2 : Option Addr) (n1 cap1 n2 cap2 : Nat) (h1 : n1 ≤ 20) (h2 : 40 < n2) (need : Int) (t : Nat) (w : World) (hfew : fewB f.ls.length = true) : Calls Try.prog 6 #[fiV f (.slice A f.ls.length cap), (.slice A1 n1 cap1), (.slice A2 n2 cap2), .int .i64 need, .int .u8 t] w fun e w' => e = .returned (.bool true) ∧ Below w.heap.size w w' := by
  unfold fiV
  go_enter Try.func6, Try.ntmps6
  have bf := heap_alloc_new w (.cells #[.int .i64 f.rise, .int .i64 f.fall, .int .i64 f.up, .int .i64 f.down, .slice A f.ls.length cap] 24)
  have HB := below_alloc w (.cells #[.int .i64 f.rise, .int .i64 f.fall, .int .i64 f.up, .int .i64 f.down, .slice A f.ls.length cap] 24)
  go_wp2_with fail
  generalize (w.alloc (.cells #[.int .i64 f.rise, .int .i64 f.fall, .int .i64 f.up, .int .i64 f.down, .slice A f.ls.length cap] 24)) = w1 at bf HB  ⊢
  have hB := HB
  clear HB
  refine (few_c f A f.ls.length cap _).mono ?_
  rintro e w2 ⟨rfl, hF⟩
  replace bf := (hF.block _ (size_of_block bf)).trans bf
  replace hB := below_then hB hF
  clear hF
  rw [hfew]
  have d1 : decide ((20 : Int) < n1) = false := decide_eq_false (by omega)
  have d2 : decide ((40 : Int) < n2) = true := decide_eq_true (by omega)
  clear h1 h2
  go_wp2_with fail
  refine (sanity_c _).mono ?_
  rintro e w3 ⟨rfl, hF⟩
  replace bf := (hF.block _ (size_of_block bf)).trans bf
  replace hB := below_then hB hF
  clear hF
  go_wp2_with fail
  go_ret
  exact ⟨rfl, hB⟩
set_option maxRecDepth 100000 in
set_option maxHeartbeats 4000000 in
theorem FireSinks_a (f : Fi) (A A1 A2 : Option Addr) (cap cap1 cap2 : Nat) (l : List Spt) (hs : List Int) (need : Int) (t : Nat) (w : World) (hk : Lks w w.heap.size (.slice A f.ls.length cap) f.ls) (hl : Spts w w.heap.size (.slice A1 l.length cap1) l) (hh : Ints w w.heap.size (.slice A2 hs.length cap2) hs) (hfew : fewB f.ls.length = true) (h1 : l.length ≤ 20) (h2 : hs.length ≤ 40) (hE : sunkE f l need ≠ 0) : Calls Try.prog 6 #[fiV f (.slice A f.ls.length cap), (.slice A1 l.length cap1), (.slice A2 hs.length cap2), .int .i64 need, .int .u8 t] w fun e w' => e = .returned (.bool true) ∧ Below w.heap.size w w' := by
  have x1 := fun W h hl => Burnt_c f (.slice A f.ls.length cap) (.slice A1 l.length cap1) l need W h hl
  have x2 := fun W h hl => Surely_c f (.slice A f.ls.length cap) (.slice A1 l.length cap1) l need W h hl
  have x3 := fun W h hl => Possibly_c f (.slice A f.ls.length cap) (.slice A1 l.length cap1) l need W h hl
  obtain ⟨E, hE2⟩ : ∃ e, e = sunkE f l need := ⟨_, rfl⟩
  rw [← hE2] at x1 x2 x3 hE
  clear hE2
  have d3 : (E != 0) = true := by simpa using hE
  clear hE
  obtain ⟨b1, hb1⟩ : ∃ e, e = leastR f l need := ⟨_, rfl⟩
  obtain ⟨b2, hb2⟩ : ∃ e, e = mostR f l need := ⟨_, rfl⟩
  rw [← hb1, ← hb2] at x1
  clear hb1 hb2
  obtain ⟨S1, hS1⟩ : ∃ e, e = surelyR f l need := ⟨_, rfl⟩
  obtain ⟨S2, hS2⟩ : ∃ e, e = possiblyR f l need := ⟨_, rfl⟩
  rw [← hS1] at x2
  rw [← hS2] at x3
  clear hS1 hS2
  have X1 := Lib.hid x1
  have X2 := Lib.hid x2
  have X3 := Lib.hid x3
  clear x1 x2 x3
  have HK := Lib.hid hk
  have HL := Lib.hid hl
  have HH := Lib.hid hh
  clear hk hl hh
  have d1 : decide ((20 : Int) < l.length) = false := decide_eq_false (by omega)
  have d2 : decide ((40 : Int) < hs.length) = false := decide_eq_false (by omega)
  have H1 := Lib.hid h1
  have H2 := Lib.hid h2
  clear h1 h2
  unfold fiV
  go_enter Try.func6, Try.ntmps6
  have bf := heap_alloc_new w (.cells #[.int .i64 f.rise, .int .i64 f.fall, .int .i64 f.up, .int .i64 f.down, .slice A f.ls.length cap] 24)
  have HB := below_alloc w (.cells #[.int .i64 f.rise, .int .i64 f.fall, .int .i64 f.up, .int .i64 f.down, .slice A f.ls.length cap] 24)
  go_wp2_with fail
  generalize (w.alloc (.cells #[.int .i64 f.rise, .int .i64 f.fall, .int .i64 f.up, .int .i64 f.down, .slice A f.ls.length cap] 24)) = w1 at bf HB  ⊢
  have hB := HB
  clear HB
  have hk := HK.out.later hB
  have hl := HL.out.later hB
  have hh := HH.out.later hB
  refine (few_c f A f.ls.length cap _).mono ?_
  rintro e w2 ⟨rfl, hF⟩
  replace bf := (hF.block _ (size_of_block bf)).trans bf
  replace hk := hk.later hF
  replace hl := hl.later hF
  replace hh := hh.later hF
  replace hB := below_then hB hF
  clear hF
  rw [hfew]
  have cbf0 := Joins.cell_of_block bf 0
  have cbf1 := Joins.cell_of_block bf 1
  have cbf2 := Joins.cell_of_block bf 2
  have cbf3 := Joins.cell_of_block bf 3
  have cbf4 := Joins.cell_of_block bf 4
  go_wp2_with fail
  refine (X1.out w2 hk hl).mono ?_
  rintro e w3 ⟨rfl, hF⟩
  clear cbf0 cbf1 cbf2 cbf3 cbf4
  replace bf := (hF.block _ (size_of_block bf)).trans bf
  replace hk := hk.later hF
  replace hl := hl.later hF
  replace hh := hh.later hF
  replace hB := below_then hB hF
  clear hF
  obtain ⟨bl, bm, -, HB⟩ := two_new' w3 (.cells #[.int .i64 b1.hours, .int .i64 b1.row, .int .i64 b1.sum] 60) (.cells #[.int .i64 b2.hours, .int .i64 b2.row, .int .i64 b2.sum] 60)
  have cbf0 := Joins.cell_of_block ((HB.block _ (size_of_block bf)).trans bf) 0
  have cbf1 := Joins.cell_of_block ((HB.block _ (size_of_block bf)).trans bf) 1
  have cbf2 := Joins.cell_of_block ((HB.block _ (size_of_block bf)).trans bf) 2
  have cbf3 := Joins.cell_of_block ((HB.block _ (size_of_block bf)).trans bf) 3
  have cbf4 := Joins.cell_of_block ((HB.block _ (size_of_block bf)).trans bf) 4
  go_wp2_with fail
  generalize ((w3.alloc (.cells #[.int .i64 b1.hours, .int .i64 b1.row, .int .i64 b1.sum] 60)).alloc (.cells #[.int .i64 b2.hours, .int .i64 b2.row, .int .i64 b2.sum] 60)) = w4 at bl bm HB cbf0 cbf1 cbf2 cbf3 cbf4 ⊢
  replace bf := (HB.block _ (size_of_block bf)).trans bf
  replace hk := hk.later HB
  replace hl := hl.later HB
  replace hh := hh.later HB
  replace hB := below_then hB HB
  clear HB
  refine (X2.out w4 hk hl).mono ?_
  rintro e w5 ⟨s1, rfl, hs1, hF⟩
  clear cbf0 cbf1 cbf2 cbf3 cbf4
  replace bf := (hF.block _ (size_of_block bf)).trans bf
  replace bl := (hF.block _ (size_of_block bl)).trans bl
  replace bm := (hF.block _ (size_of_block bm)).trans bm
  replace hk := hk.later hF
  replace hl := hl.later hF
  replace hh := hh.later hF
  replace hB := below_then hB hF
  clear hF
  have cbf0 := Joins.cell_of_block bf 0
  have cbf1 := Joins.cell_of_block bf 1
  have cbf2 := Joins.cell_of_block bf 2
  have cbf3 := Joins.cell_of_block bf 3
  have cbf4 := Joins.cell_of_block bf 4
  go_wp2_with fail
  refine (X3.out w5 hk hl).mono ?_
  rintro e w6 ⟨s2, rfl, hs2, hF⟩
  clear cbf0 cbf1 cbf2 cbf3 cbf4
  replace bf := (hF.block _ (size_of_block bf)).trans bf
  replace bl := (hF.block _ (size_of_block bl)).trans bl
  replace bm := (hF.block _ (size_of_block bm)).trans bm
  replace hk := hk.later hF
  replace hl := hl.later hF
  replace hh := hh.later hF
  replace hs1 := own_below hs1 hF
  replace hB := below_then hB hF
  clear hF
  go_wp2_with fail
  refine (sanity_c _).mono ?_
  rintro e w7 ⟨rfl, hF⟩
  replace bf := (hF.block _ (size_of_block bf)).trans bf
  replace bl := (hF.block _ (size_of_block bl)).trans bl
  replace bm := (hF.block _ (size_of_block bm)).trans bm
  replace hk := hk.later hF
  replace hl := hl.later hF
  replace hh := hh.later hF
  replace hs1 := own_below hs1 hF
  replace hs2 := own_below hs2 hF
  replace hB := below_then hB hF
  clear hF
  go_wp2_with fail
  go_ret
  exact ⟨rfl, hB⟩
set_option maxRecDepth 100000 in
set_option maxHeartbeats 4000000 in
theorem FireSinks_b1 (f : Fi) (A A1 A2 : Option Addr) (cap cap1 cap2 : Nat) (l : List Spt) (hs : List Int) (need : Int) (t : Nat) (w : World) (hk : Lks w w.heap.size (.slice A f.ls.length cap) f.ls) (hl : Spts w w.heap.size (.slice A1 l.length cap1) l) (hh : Ints w w.heap.size (.slice A2 hs.length cap2) hs) (hfew : fewB f.ls.length = true) (h1 : l.length ≤ 20) (h2 : hs.length ≤ 40) (ht : t ≤ 255) (hE : sunkE f l need = 0) (hF : fitsE f l hs ≠ 0) : Calls Try.prog 6 #[fiV f (.slice A f.ls.length cap), (.slice A1 l.length cap1), (.slice A2 hs.length cap2), .int .i64 need, .int .u8 t] w fun e w' => e = .returned (.bool true) ∧ Below w.heap.size w w' := by
  obtain ⟨hok, hag, hnr, hl200, hE2⟩ := snk_zero hE
  obtain ⟨e1, e2, e3, e4⟩ := snk_least hE
  have hmin : 0 ≤ min 1500 (need + (t : Int)) ∧ min 1500 (need + (t : Int)) ≤ 1500 := by omega
  have hE3 := hE2 _ hmin
  obtain ⟨e5, e6, -, -⟩ := snk_least hE3
  have hu := snk_under hE (n := min 1500 (need + (t : Int))) (by omega)
  have x1 := fun W h hl => Burnt_c f (.slice A f.ls.length cap) (.slice A1 l.length cap1) l need W h hl
  have x2 := fun W h hl => Surely_c f (.slice A f.ls.length cap) (.slice A1 l.length cap1) l need W h hl
  have x3 := fun W h hl => Possibly_c f (.slice A f.ls.length cap) (.slice A1 l.length cap1) l need W h hl
  rw [e1, e2, hE] at x1
  rw [e3, hE] at x2
  rw [e4, hE] at x3
  have x6 := fun W h hl => Burnt_c f (.slice A f.ls.length cap) (.slice A1 l.length cap1) l (min 1500 (need + (t : Int))) W h hl
  rw [e5, e6, hE3] at x6
  have x4 := fun W h hl hh => Fits_c f (.slice A f.ls.length cap) (.slice A1 l.length cap1) (.slice A2 hs.length cap2) l hs W h hl hh
  have r1 := rows_short (f := f) (l := l) (need := need) lowsI (by unfold lowsI; simp)
  have r2 := rows_short (f := f) (l := l) (need := need) highsI (by unfold highsI; simp)
  obtain ⟨FE, hFE⟩ : ∃ e, e = fitsE f l hs := ⟨_, rfl⟩
  obtain ⟨FR, hFR⟩ : ∃ e, e = fitsR f l hs := ⟨_, rfl⟩
  rw [← hFE, ← hFR] at x4
  rw [← hFE] at hF
  try rw [← hFR] at hF
  clear hFE hFR
  generalize burnI (lowsI f l) need = b1 at x1 hu
  generalize burnI (highsI f l) need = b2 at x1 hu
  generalize burnI (lowsI f l) _ = b5 at x6 hu
  generalize burnI (highsI f l) _ = b6 at x6 hu
  generalize rowsI (lowsI f l) need = S1 at x2 r1
  generalize rowsI (highsI f l) need = S2 at x3 r2
  have HU := Lib.hid hu
  have HR1 := Lib.hid r1
  have HR2 := Lib.hid r2
  have HMIN := Lib.hid hmin
  have hw1 : IntKind.i64.wrap (t : Int) = t := by rw [IntKind.wrap_i64]; omega
  have hw2 : IntKind.i64.wrap (need + (t : Int)) = need + (t : Int) := by rw [IntKind.wrap_i64]; omega
  clear e1 e2 e3 e4 e5 e6 hE3 hE2 hE hmin hok hag hl200 r1 r2 hu hnr
  have X1 := Lib.hid x1
  have X2 := Lib.hid x2
  have X3 := Lib.hid x3
  have X4 := Lib.hid x4
  have X6 := Lib.hid x6
  clear x1 x2 x3 x4 x6
  have d3 : (FE == 0) = false := by simpa using hF
  clear hF
  have HK := Lib.hid hk
  have HL := Lib.hid hl
  have HH := Lib.hid hh
  clear hk hl hh
  have d1 : decide ((20 : Int) < l.length) = false := decide_eq_false (by omega)
  have d2 : decide ((40 : Int) < hs.length) = false := decide_eq_false (by omega)
  have H1 := Lib.hid h1
  have H2 := Lib.hid h2
  clear h1 h2
  unfold fiV
  go_enter Try.func6, Try.ntmps6
  have bf := heap_alloc_new w (.cells #[.int .i64 f.rise, .int .i64 f.fall, .int .i64 f.up, .int .i64 f.down, .slice A f.ls.length cap] 24)
  have HB := below_alloc w (.cells #[.int .i64 f.rise, .int .i64 f.fall, .int .i64 f.up, .int .i64 f.down, .slice A f.ls.length cap] 24)
  go_wp2_with fail
  generalize (w.alloc (.cells #[.int .i64 f.rise, .int .i64 f.fall, .int .i64 f.up, .int .i64 f.down, .slice A f.ls.length cap] 24)) = w1 at bf HB  ⊢
  have hB := HB
  clear HB
  have hk := HK.out.later hB
  have hl := HL.out.later hB
  have hh := HH.out.later hB
  refine (few_c f A f.ls.length cap _).mono ?_
  rintro e w2 ⟨rfl, hF⟩
  replace bf := (hF.block _ (size_of_block bf)).trans bf
  replace hk := hk.later hF
  replace hl := hl.later hF
  replace hh := hh.later hF
  replace hB := below_then hB hF
  clear hF
  rw [hfew]
  have cbf0 := Joins.cell_of_block bf 0
  have cbf1 := Joins.cell_of_block bf 1
  have cbf2 := Joins.cell_of_block bf 2
  have cbf3 := Joins.cell_of_block bf 3
  have cbf4 := Joins.cell_of_block bf 4
  go_wp2_with fail
  refine (X1.out w2 hk hl).mono ?_
  rintro e w3 ⟨rfl, hF⟩
  clear cbf0 cbf1 cbf2 cbf3 cbf4
  replace bf := (hF.block _ (size_of_block bf)).trans bf
  replace hk := hk.later hF
  replace hl := hl.later hF
  replace hh := hh.later hF
  replace hB := below_then hB hF
  clear hF
  obtain ⟨bl, bm, -, HB⟩ := two_new' w3 (.cells #[.int .i64 b1.hours, .int .i64 b1.row, .int .i64 b1.sum] 60) (.cells #[.int .i64 b2.hours, .int .i64 b2.row, .int .i64 b2.sum] 60)
  have cbf0 := Joins.cell_of_block ((HB.block _ (size_of_block bf)).trans bf) 0
  have cbf1 := Joins.cell_of_block ((HB.block _ (size_of_block bf)).trans bf) 1
  have cbf2 := Joins.cell_of_block ((HB.block _ (size_of_block bf)).trans bf) 2
  have cbf3 := Joins.cell_of_block ((HB.block _ (size_of_block bf)).trans bf) 3
  have cbf4 := Joins.cell_of_block ((HB.block _ (size_of_block bf)).trans bf) 4
  go_wp2_with fail
  generalize ((w3.alloc (.cells #[.int .i64 b1.hours, .int .i64 b1.row, .int .i64 b1.sum] 60)).alloc (.cells #[.int .i64 b2.hours, .int .i64 b2.row, .int .i64 b2.sum] 60)) = w4 at bl bm HB cbf0 cbf1 cbf2 cbf3 cbf4 ⊢
  replace bf := (HB.block _ (size_of_block bf)).trans bf
  replace hk := hk.later HB
  replace hl := hl.later HB
  replace hh := hh.later HB
  replace hB := below_then hB HB
  clear HB
  refine (X2.out w4 hk hl).mono ?_
  rintro e w5 ⟨s1, rfl, hs1, hF⟩
  clear cbf0 cbf1 cbf2 cbf3 cbf4
  replace bf := (hF.block _ (size_of_block bf)).trans bf
  replace bl := (hF.block _ (size_of_block bl)).trans bl
  replace bm := (hF.block _ (size_of_block bm)).trans bm
  replace hk := hk.later hF
  replace hl := hl.later hF
  replace hh := hh.later hF
  replace hB := below_then hB hF
  clear hF
  have cbf0 := Joins.cell_of_block bf 0
  have cbf1 := Joins.cell_of_block bf 1
  have cbf2 := Joins.cell_of_block bf 2
  have cbf3 := Joins.cell_of_block bf 3
  have cbf4 := Joins.cell_of_block bf 4
  go_wp2_with fail
  refine (X3.out w5 hk hl).mono ?_
  rintro e w6 ⟨s2, rfl, hs2, hF⟩
  clear cbf0 cbf1 cbf2 cbf3 cbf4
  replace bf := (hF.block _ (size_of_block bf)).trans bf
  replace bl := (hF.block _ (size_of_block bl)).trans bl
  replace bm := (hF.block _ (size_of_block bm)).trans bm
  replace hk := hk.later hF
  replace hl := hl.later hF
  replace hh := hh.later hF
  replace hs1 := own_below hs1 hF
  replace hB := below_then hB hF
  clear hF
  have cbf0 := Joins.cell_of_block bf 0
  have cbf1 := Joins.cell_of_block bf 1
  have cbf2 := Joins.cell_of_block bf 2
  have cbf3 := Joins.cell_of_block bf 3
  have cbf4 := Joins.cell_of_block bf 4
  go_wp2_with fail
  refine (X4.out w6 hk hl hh).mono ?_
  rintro e w7 ⟨rfl, hF⟩
  clear cbf0 cbf1 cbf2 cbf3 cbf4
  replace bf := (hF.block _ (size_of_block bf)).trans bf
  replace bl := (hF.block _ (size_of_block bl)).trans bl
  replace bm := (hF.block _ (size_of_block bm)).trans bm
  replace hk := hk.later hF
  replace hl := hl.later hF
  replace hh := hh.later hF
  replace hs1 := own_below hs1 hF
  replace hs2 := own_below hs2 hF
  replace hB := below_then hB hF
  clear hF
  have cbf0 := Joins.cell_of_block bf 0
  have cbf1 := Joins.cell_of_block bf 1
  have cbf2 := Joins.cell_of_block bf 2
  have cbf3 := Joins.cell_of_block bf 3
  have cbf4 := Joins.cell_of_block bf 4
  go_wp2_with fail
  refine (X6.out w7 hk hl).mono ?_
  rintro e w8 ⟨rfl, hF⟩
  clear cbf0 cbf1 cbf2 cbf3 cbf4
  replace bf := (hF.block _ (size_of_block bf)).trans bf
  replace bl := (hF.block _ (size_of_block bl)).trans bl
  replace bm := (hF.block _ (size_of_block bm)).trans bm
  replace hk := hk.later hF
  replace hl := hl.later hF
  replace hh := hh.later hF
  replace hs1 := own_below hs1 hF
  replace hs2 := own_below hs2 hF
  replace hB := below_then hB hF
  clear hF
  obtain ⟨ba, bb, -, HB⟩ := two_new' w8 (.cells #[.int .i64 b5.hours, .int .i64 b5.row, .int .i64 b5.sum] 60) (.cells #[.int .i64 b6.hours, .int .i64 b6.row, .int .i64 b6.sum] 60)
  go_wp2_with fail
  generalize ((w8.alloc (.cells #[.int .i64 b5.hours, .int .i64 b5.row, .int .i64 b5.sum] 60)).alloc (.cells #[.int .i64 b6.hours, .int .i64 b6.row, .int .i64 b6.sum] 60)) = w9 at ba bb HB  ⊢
  replace bf := (HB.block _ (size_of_block bf)).trans bf
  replace bl := (HB.block _ (size_of_block bl)).trans bl
  replace bm := (HB.block _ (size_of_block bm)).trans bm
  replace hk := hk.later HB
  replace hl := hl.later HB
  replace hh := hh.later HB
  replace hs1 := own_below hs1 HB
  replace hs2 := own_below hs2 HB
  replace hB := below_then hB HB
  clear HB
  refine (sanity_c _).mono ?_
  rintro e w10 ⟨rfl, hF⟩
  replace bf := (hF.block _ (size_of_block bf)).trans bf
  replace bl := (hF.block _ (size_of_block bl)).trans bl
  replace bm := (hF.block _ (size_of_block bm)).trans bm
  replace ba := (hF.block _ (size_of_block ba)).trans ba
  replace bb := (hF.block _ (size_of_block bb)).trans bb
  replace hk := hk.later hF
  replace hl := hl.later hF
  replace hh := hh.later hF
  replace hs1 := own_below hs1 hF
  replace hs2 := own_below hs2 hF
  replace hB := below_then hB hF
  clear hF
  have cbl0 := Joins.cell_of_block bl 0
  have cbl1 := Joins.cell_of_block bl 1
  have cbl2 := Joins.cell_of_block bl 2
  have cbm0 := Joins.cell_of_block bm 0
  have cbm1 := Joins.cell_of_block bm 1
  have cbm2 := Joins.cell_of_block bm 2
  go_wp2_with fail
  refine (under_t b1 b2 w10 HU.out.1).mono ?_
  rintro e w11 ⟨rfl, hF⟩
  clear cbl0 cbl1 cbl2 cbm0 cbm1 cbm2
  replace bf := (hF.block _ (size_of_block bf)).trans bf
  replace bl := (hF.block _ (size_of_block bl)).trans bl
  replace bm := (hF.block _ (size_of_block bm)).trans bm
  replace ba := (hF.block _ (size_of_block ba)).trans ba
  replace bb := (hF.block _ (size_of_block bb)).trans bb
  replace hk := hk.later hF
  replace hl := hl.later hF
  replace hh := hh.later hF
  replace hs1 := own_below hs1 hF
  replace hs2 := own_below hs2 hF
  replace hB := below_then hB hF
  clear hF
  have cba0 := Joins.cell_of_block ba 0
  have cba1 := Joins.cell_of_block ba 1
  have cba2 := Joins.cell_of_block ba 2
  have cbl0 := Joins.cell_of_block bl 0
  have cbl1 := Joins.cell_of_block bl 1
  have cbl2 := Joins.cell_of_block bl 2
  go_wp2_with fail
  refine (under_t b5 b1 w11 HU.out.2.1).mono ?_
  rintro e w12 ⟨rfl, hF⟩
  clear cba0 cba1 cba2 cbl0 cbl1 cbl2
  replace bf := (hF.block _ (size_of_block bf)).trans bf
  replace bl := (hF.block _ (size_of_block bl)).trans bl
  replace bm := (hF.block _ (size_of_block bm)).trans bm
  replace ba := (hF.block _ (size_of_block ba)).trans ba
  replace bb := (hF.block _ (size_of_block bb)).trans bb
  replace hk := hk.later hF
  replace hl := hl.later hF
  replace hh := hh.later hF
  replace hs1 := own_below hs1 hF
  replace hs2 := own_below hs2 hF
  replace hB := below_then hB hF
  clear hF
  have cbb0 := Joins.cell_of_block bb 0
  have cbb1 := Joins.cell_of_block bb 1
  have cbb2 := Joins.cell_of_block bb 2
  have cbm0 := Joins.cell_of_block bm 0
  have cbm1 := Joins.cell_of_block bm 1
  have cbm2 := Joins.cell_of_block bm 2
  go_wp2_with fail
  refine (under_t b6 b2 w12 HU.out.2.2).mono ?_
  rintro e w13 ⟨rfl, hF⟩
  clear cbb0 cbb1 cbb2 cbm0 cbm1 cbm2
  replace bf := (hF.block _ (size_of_block bf)).trans bf
  replace bl := (hF.block _ (size_of_block bl)).trans bl
  replace bm := (hF.block _ (size_of_block bm)).trans bm
  replace ba := (hF.block _ (size_of_block ba)).trans ba
  replace bb := (hF.block _ (size_of_block bb)).trans bb
  replace hk := hk.later hF
  replace hl := hl.later hF
  replace hh := hh.later hF
  replace hs1 := own_below hs1 hF
  replace hs2 := own_below hs2 hF
  replace hB := below_then hB hF
  clear hF
  go_wp2_with fail
  go_ret
  exact ⟨rfl, hB⟩
set_option maxRecDepth 100000 in
set_option maxHeartbeats 4000000 in
theorem FireSinks_b2 (f : Fi) (A A1 A2 : Option Addr) (cap cap1 cap2 : Nat) (l : List Spt) (hs : List Int) (need : Int) (t : Nat) (w : World) (hk : Lks w w.heap.size (.slice A f.ls.length cap) f.ls) (hl : Spts w w.heap.size (.slice A1 l.length cap1) l) (hh : Ints w w.heap.size (.slice A2 hs.length cap2) hs) (hfew : fewB f.ls.length = true) (h1 : l.length ≤ 20) (h2 : hs.length ≤ 40) (ht : t ≤ 255) (hE : sunkE f l need = 0) (hF : fitsE f l hs = 0 ∧ fitsR f l hs = false) : Calls Try.prog 6 #[fiV f (.slice A f.ls.length cap), (.slice A1 l.length cap1), (.slice A2 hs.length cap2), .int .i64 need, .int .u8 t] w fun e w' => e = .returned (.bool true) ∧ Below w.heap.size w w' := by
  obtain ⟨hok, hag, hnr, hl200, hE2⟩ := snk_zero hE
  obtain ⟨e1, e2, e3, e4⟩ := snk_least hE
  have hmin : 0 ≤ min 1500 (need + (t : Int)) ∧ min 1500 (need + (t : Int)) ≤ 1500 := by omega
  have hE3 := hE2 _ hmin
  obtain ⟨e5, e6, -, -⟩ := snk_least hE3
  have hu := snk_under hE (n := min 1500 (need + (t : Int))) (by omega)
  have x1 := fun W h hl => Burnt_c f (.slice A f.ls.length cap) (.slice A1 l.length cap1) l need W h hl
  have x2 := fun W h hl => Surely_c f (.slice A f.ls.length cap) (.slice A1 l.length cap1) l need W h hl
  have x3 := fun W h hl => Possibly_c f (.slice A f.ls.length cap) (.slice A1 l.length cap1) l need W h hl
  rw [e1, e2, hE] at x1
  rw [e3, hE] at x2
  rw [e4, hE] at x3
  have x6 := fun W h hl => Burnt_c f (.slice A f.ls.length cap) (.slice A1 l.length cap1) l (min 1500 (need + (t : Int))) W h hl
  rw [e5, e6, hE3] at x6
  have x4 := fun W h hl hh => Fits_c f (.slice A f.ls.length cap) (.slice A1 l.length cap1) (.slice A2 hs.length cap2) l hs W h hl hh
  have r1 := rows_short (f := f) (l := l) (need := need) lowsI (by unfold lowsI; simp)
  have r2 := rows_short (f := f) (l := l) (need := need) highsI (by unfold highsI; simp)
  obtain ⟨FE, hFE⟩ : ∃ e, e = fitsE f l hs := ⟨_, rfl⟩
  obtain ⟨FR, hFR⟩ : ∃ e, e = fitsR f l hs := ⟨_, rfl⟩
  rw [← hFE, ← hFR] at x4
  rw [← hFE] at hF
  try rw [← hFR] at hF
  clear hFE hFR
  generalize burnI (lowsI f l) need = b1 at x1 hu
  generalize burnI (highsI f l) need = b2 at x1 hu
  generalize burnI (lowsI f l) _ = b5 at x6 hu
  generalize burnI (highsI f l) _ = b6 at x6 hu
  generalize rowsI (lowsI f l) need = S1 at x2 r1
  generalize rowsI (highsI f l) need = S2 at x3 r2
  have HU := Lib.hid hu
  have HR1 := Lib.hid r1
  have HR2 := Lib.hid r2
  have HMIN := Lib.hid hmin
  have hw1 : IntKind.i64.wrap (t : Int) = t := by rw [IntKind.wrap_i64]; omega
  have hw2 : IntKind.i64.wrap (need + (t : Int)) = need + (t : Int) := by rw [IntKind.wrap_i64]; omega
  clear e1 e2 e3 e4 e5 e6 hE3 hE2 hE hmin hok hag hl200 r1 r2 hu hnr
  have X1 := Lib.hid x1
  have X2 := Lib.hid x2
  have X3 := Lib.hid x3
  have X4 := Lib.hid x4
  have X6 := Lib.hid x6
  clear x1 x2 x3 x4 x6
  obtain ⟨rfl, rfl⟩ := hF
  have HK := Lib.hid hk
  have HL := Lib.hid hl
  have HH := Lib.hid hh
  clear hk hl hh
  have d1 : decide ((20 : Int) < l.length) = false := decide_eq_false (by omega)
  have d2 : decide ((40 : Int) < hs.length) = false := decide_eq_false (by omega)
  have H1 := Lib.hid h1
  have H2 := Lib.hid h2
  clear h1 h2
  unfold fiV
  go_enter Try.func6, Try.ntmps6
  have bf := heap_alloc_new w (.cells #[.int .i64 f.rise, .int .i64 f.fall, .int .i64 f.up, .int .i64 f.down, .slice A f.ls.length cap] 24)
  have HB := below_alloc w (.cells #[.int .i64 f.rise, .int .i64 f.fall, .int .i64 f.up, .int .i64 f.down, .slice A f.ls.length cap] 24)
  go_wp2_with fail
  generalize (w.alloc (.cells #[.int .i64 f.rise, .int .i64 f.fall, .int .i64 f.up, .int .i64 f.down, .slice A f.ls.length cap] 24)) = w1 at bf HB  ⊢
  have hB := HB
  clear HB
  have hk := HK.out.later hB
  have hl := HL.out.later hB
  have hh := HH.out.later hB
  refine (few_c f A f.ls.length cap _).mono ?_
  rintro e w2 ⟨rfl, hF⟩
  replace bf := (hF.block _ (size_of_block bf)).trans bf
  replace hk := hk.later hF
  replace hl := hl.later hF
  replace hh := hh.later hF
  replace hB := below_then hB hF
  clear hF
  rw [hfew]
  have cbf0 := Joins.cell_of_block bf 0
  have cbf1 := Joins.cell_of_block bf 1
  have cbf2 := Joins.cell_of_block bf 2
  have cbf3 := Joins.cell_of_block bf 3
  have cbf4 := Joins.cell_of_block bf 4
  go_wp2_with fail
  refine (X1.out w2 hk hl).mono ?_
  rintro e w3 ⟨rfl, hF⟩
  clear cbf0 cbf1 cbf2 cbf3 cbf4
  replace bf := (hF.block _ (size_of_block bf)).trans bf
  replace hk := hk.later hF
  replace hl := hl.later hF
  replace hh := hh.later hF
  replace hB := below_then hB hF
  clear hF
  obtain ⟨bl, bm, -, HB⟩ := two_new' w3 (.cells #[.int .i64 b1.hours, .int .i64 b1.row, .int .i64 b1.sum] 60) (.cells #[.int .i64 b2.hours, .int .i64 b2.row, .int .i64 b2.sum] 60)
  have cbf0 := Joins.cell_of_block ((HB.block _ (size_of_block bf)).trans bf) 0
  have cbf1 := Joins.cell_of_block ((HB.block _ (size_of_block bf)).trans bf) 1
  have cbf2 := Joins.cell_of_block ((HB.block _ (size_of_block bf)).trans bf) 2
  have cbf3 := Joins.cell_of_block ((HB.block _ (size_of_block bf)).trans bf) 3
  have cbf4 := Joins.cell_of_block ((HB.block _ (size_of_block bf)).trans bf) 4
  go_wp2_with fail
  generalize ((w3.alloc (.cells #[.int .i64 b1.hours, .int .i64 b1.row, .int .i64 b1.sum] 60)).alloc (.cells #[.int .i64 b2.hours, .int .i64 b2.row, .int .i64 b2.sum] 60)) = w4 at bl bm HB cbf0 cbf1 cbf2 cbf3 cbf4 ⊢
  replace bf := (HB.block _ (size_of_block bf)).trans bf
  replace hk := hk.later HB
  replace hl := hl.later HB
  replace hh := hh.later HB
  replace hB := below_then hB HB
  clear HB
  refine (X2.out w4 hk hl).mono ?_
  rintro e w5 ⟨s1, rfl, hs1, hF⟩
  clear cbf0 cbf1 cbf2 cbf3 cbf4
  replace bf := (hF.block _ (size_of_block bf)).trans bf
  replace bl := (hF.block _ (size_of_block bl)).trans bl
  replace bm := (hF.block _ (size_of_block bm)).trans bm
  replace hk := hk.later hF
  replace hl := hl.later hF
  replace hh := hh.later hF
  replace hB := below_then hB hF
  clear hF
  have cbf0 := Joins.cell_of_block bf 0
  have cbf1 := Joins.cell_of_block bf 1
  have cbf2 := Joins.cell_of_block bf 2
  have cbf3 := Joins.cell_of_block bf 3
  have cbf4 := Joins.cell_of_block bf 4
  go_wp2_with fail
  refine (X3.out w5 hk hl).mono ?_
  rintro e w6 ⟨s2, rfl, hs2, hF⟩
  clear cbf0 cbf1 cbf2 cbf3 cbf4
  replace bf := (hF.block _ (size_of_block bf)).trans bf
  replace bl := (hF.block _ (size_of_block bl)).trans bl
  replace bm := (hF.block _ (size_of_block bm)).trans bm
  replace hk := hk.later hF
  replace hl := hl.later hF
  replace hh := hh.later hF
  replace hs1 := own_below hs1 hF
  replace hB := below_then hB hF
  clear hF
  have cbf0 := Joins.cell_of_block bf 0
  have cbf1 := Joins.cell_of_block bf 1
  have cbf2 := Joins.cell_of_block bf 2
  have cbf3 := Joins.cell_of_block bf 3
  have cbf4 := Joins.cell_of_block bf 4
  go_wp2_with fail
  refine (X4.out w6 hk hl hh).mono ?_
  rintro e w7 ⟨rfl, hF⟩
  clear cbf0 cbf1 cbf2 cbf3 cbf4
  replace bf := (hF.block _ (size_of_block bf)).trans bf
  replace bl := (hF.block _ (size_of_block bl)).trans bl
  replace bm := (hF.block _ (size_of_block bm)).trans bm
  replace hk := hk.later hF
  replace hl := hl.later hF
  replace hh := hh.later hF
  replace hs1 := own_below hs1 hF
  replace hs2 := own_below hs2 hF
  replace hB := below_then hB hF
  clear hF
  have cbf0 := Joins.cell_of_block bf 0
  have cbf1 := Joins.cell_of_block bf 1
  have cbf2 := Joins.cell_of_block bf 2
  have cbf3 := Joins.cell_of_block bf 3
  have cbf4 := Joins.cell_of_block bf 4
  go_wp2_with fail
  refine (X6.out w7 hk hl).mono ?_
  rintro e w8 ⟨rfl, hF⟩
  clear cbf0 cbf1 cbf2 cbf3 cbf4
  replace bf := (hF.block _ (size_of_block bf)).trans bf
  replace bl := (hF.block _ (size_of_block bl)).trans bl
  replace bm := (hF.block _ (size_of_block bm)).trans bm
  replace hk := hk.later hF
  replace hl := hl.later hF
  replace hh := hh.later hF
  replace hs1 := own_below hs1 hF
  replace hs2 := own_below hs2 hF
  replace hB := below_then hB hF
  clear hF
  obtain ⟨ba, bb, -, HB⟩ := two_new' w8 (.cells #[.int .i64 b5.hours, .int .i64 b5.row, .int .i64 b5.sum] 60) (.cells #[.int .i64 b6.hours, .int .i64 b6.row, .int .i64 b6.sum] 60)
  go_wp2_with fail
  generalize ((w8.alloc (.cells #[.int .i64 b5.hours, .int .i64 b5.row, .int .i64 b5.sum] 60)).alloc (.cells #[.int .i64 b6.hours, .int .i64 b6.row, .int .i64 b6.sum] 60)) = w9 at ba bb HB  ⊢
  replace bf := (HB.block _ (size_of_block bf)).trans bf
  replace bl := (HB.block _ (size_of_block bl)).trans bl
  replace bm := (HB.block _ (size_of_block bm)).trans bm
  replace hk := hk.later HB
  replace hl := hl.later HB
  replace hh := hh.later HB
  replace hs1 := own_below hs1 HB
  replace hs2 := own_below hs2 HB
  replace hB := below_then hB HB
  clear HB
  refine (sanity_c _).mono ?_
  rintro e w10 ⟨rfl, hF⟩
  replace bf := (hF.block _ (size_of_block bf)).trans bf
  replace bl := (hF.block _ (size_of_block bl)).trans bl
  replace bm := (hF.block _ (size_of_block bm)).trans bm
  replace ba := (hF.block _ (size_of_block ba)).trans ba
  replace bb := (hF.block _ (size_of_block bb)).trans bb
  replace hk := hk.later hF
  replace hl := hl.later hF
  replace hh := hh.later hF
  replace hs1 := own_below hs1 hF
  replace hs2 := own_below hs2 hF
  replace hB := below_then hB hF
  clear hF
  have cbl0 := Joins.cell_of_block bl 0
  have cbl1 := Joins.cell_of_block bl 1
  have cbl2 := Joins.cell_of_block bl 2
  have cbm0 := Joins.cell_of_block bm 0
  have cbm1 := Joins.cell_of_block bm 1
  have cbm2 := Joins.cell_of_block bm 2
  go_wp2_with fail
  refine (under_t b1 b2 w10 HU.out.1).mono ?_
  rintro e w11 ⟨rfl, hF⟩
  clear cbl0 cbl1 cbl2 cbm0 cbm1 cbm2
  replace bf := (hF.block _ (size_of_block bf)).trans bf
  replace bl := (hF.block _ (size_of_block bl)).trans bl
  replace bm := (hF.block _ (size_of_block bm)).trans bm
  replace ba := (hF.block _ (size_of_block ba)).trans ba
  replace bb := (hF.block _ (size_of_block bb)).trans bb
  replace hk := hk.later hF
  replace hl := hl.later hF
  replace hh := hh.later hF
  replace hs1 := own_below hs1 hF
  replace hs2 := own_below hs2 hF
  replace hB := below_then hB hF
  clear hF
  have cba0 := Joins.cell_of_block ba 0
  have cba1 := Joins.cell_of_block ba 1
  have cba2 := Joins.cell_of_block ba 2
  have cbl0 := Joins.cell_of_block bl 0
  have cbl1 := Joins.cell_of_block bl 1
  have cbl2 := Joins.cell_of_block bl 2
  go_wp2_with fail
  refine (under_t b5 b1 w11 HU.out.2.1).mono ?_
  rintro e w12 ⟨rfl, hF⟩
  clear cba0 cba1 cba2 cbl0 cbl1 cbl2
  replace bf := (hF.block _ (size_of_block bf)).trans bf
  replace bl := (hF.block _ (size_of_block bl)).trans bl
  replace bm := (hF.block _ (size_of_block bm)).trans bm
  replace ba := (hF.block _ (size_of_block ba)).trans ba
  replace bb := (hF.block _ (size_of_block bb)).trans bb
  replace hk := hk.later hF
  replace hl := hl.later hF
  replace hh := hh.later hF
  replace hs1 := own_below hs1 hF
  replace hs2 := own_below hs2 hF
  replace hB := below_then hB hF
  clear hF
  have cbb0 := Joins.cell_of_block bb 0
  have cbb1 := Joins.cell_of_block bb 1
  have cbb2 := Joins.cell_of_block bb 2
  have cbm0 := Joins.cell_of_block bm 0
  have cbm1 := Joins.cell_of_block bm 1
  have cbm2 := Joins.cell_of_block bm 2
  go_wp2_with fail
  refine (under_t b6 b2 w12 HU.out.2.2).mono ?_
  rintro e w13 ⟨rfl, hF⟩
  clear cbb0 cbb1 cbb2 cbm0 cbm1 cbm2
  replace bf := (hF.block _ (size_of_block bf)).trans bf
  replace bl := (hF.block _ (size_of_block bl)).trans bl
  replace bm := (hF.block _ (size_of_block bm)).trans bm
  replace ba := (hF.block _ (size_of_block ba)).trans ba
  replace bb := (hF.block _ (size_of_block bb)).trans bb
  replace hk := hk.later hF
  replace hl := hl.later hF
  replace hh := hh.later hF
  replace hs1 := own_below hs1 hF
  replace hs2 := own_below hs2 hF
  replace hB := below_then hB hF
  clear hF
  go_wp2_with fail
  go_ret
  exact ⟨rfl, hB⟩
set_option maxRecDepth 100000 in
set_option maxHeartbeats 4000000 in
theorem FireSinks_c (f : Fi) (A A1 A2 : Option Addr) (cap cap1 cap2 : Nat) (l : List Spt) (hs : List Int) (need : Int) (t : Nat) (w : World) (hk : Lks w w.heap.size (.slice A f.ls.length cap) f.ls) (hl : Spts w w.heap.size (.slice A1 l.length cap1) l) (hh : Ints w w.heap.size (.slice A2 hs.length cap2) hs) (hfew : fewB f.ls.length = true) (h1 : l.length ≤ 20) (h2 : hs.length ≤ 40) (ht : t ≤ 255) (hE : sunkE f l need = 0) (hF1 : fitsE f l hs = 0) (hF2 : fitsR f l hs = true) : Calls Try.prog 6 #[fiV f (.slice A f.ls.length cap), (.slice A1 l.length cap1), (.slice A2 hs.length cap2), .int .i64 need, .int .u8 t] w fun e w' => e = .returned (.bool true) ∧ Below w.heap.size w w' := by
  obtain ⟨hok, hag, hnr, hl200, hE2⟩ := snk_zero hE
  obtain ⟨e1, e2, e3, e4⟩ := snk_least hE
  have hmin : 0 ≤ min 1500 (need + (t : Int)) ∧ min 1500 (need + (t : Int)) ≤ 1500 := by omega
  have hE3 := hE2 _ hmin
  obtain ⟨e5, e6, -, -⟩ := snk_least hE3
  have hu := snk_under hE (n := min 1500 (need + (t : Int))) (by omega)
  have x1 := fun W h hl => Burnt_c f (.slice A f.ls.length cap) (.slice A1 l.length cap1) l need W h hl
  have x2 := fun W h hl => Surely_c f (.slice A f.ls.length cap) (.slice A1 l.length cap1) l need W h hl
  have x3 := fun W h hl => Possibly_c f (.slice A f.ls.length cap) (.slice A1 l.length cap1) l need W h hl
  rw [e1, e2, hE] at x1
  rw [e3, hE] at x2
  rw [e4, hE] at x3
  have x6 := fun W h hl => Burnt_c f (.slice A f.ls.length cap) (.slice A1 l.length cap1) l (min 1500 (need + (t : Int))) W h hl
  rw [e5, e6, hE3] at x6
  have x4 := fun W h hl hh => Fits_c f (.slice A f.ls.length cap) (.slice A1 l.length cap1) (.slice A2 hs.length cap2) l hs W h hl hh
  have r1 := rows_short (f := f) (l := l) (need := need) lowsI (by unfold lowsI; simp)
  have r2 := rows_short (f := f) (l := l) (need := need) highsI (by unfold highsI; simp)
  obtain ⟨hlen, hrg, hu1, hu2, hin⟩ := snk_fits (need := need) hF1 hF2
  rw [hF1, hF2] at x4
  have x5 := fun W h => BurnR_c (.slice A2 hs.length cap2) hs need W h (by omega) hrg hnr
  generalize burnI hs need = b3 at x5 hu1 hu2
  generalize burnI (lowsI f l) need = b1 at x1 hu hu1
  generalize burnI (highsI f l) need = b2 at x1 hu hu2
  generalize burnI (lowsI f l) _ = b5 at x6 hu
  generalize burnI (highsI f l) _ = b6 at x6 hu
  generalize rowsI (lowsI f l) need = S1 at x2 r1 hin
  generalize rowsI (highsI f l) need = S2 at x3 r2 hin
  have HU := Lib.hid hu
  have HU1 := Lib.hid hu1
  have HU2 := Lib.hid hu2
  have HIN := Lib.hid hin
  have HLEN := Lib.hid hlen
  have HR1 := Lib.hid r1
  have HR2 := Lib.hid r2
  have HMIN := Lib.hid hmin
  have hw1 : IntKind.i64.wrap (t : Int) = t := by rw [IntKind.wrap_i64]; omega
  have hw2 : IntKind.i64.wrap (need + (t : Int)) = need + (t : Int) := by rw [IntKind.wrap_i64]; omega
  clear e1 e2 e3 e4 e5 e6 hE3 hE2 hE hmin hok hag hl200 r1 r2 hu hnr hu1 hu2 hin hlen hrg hF1 hF2
  have X1 := Lib.hid x1
  have X2 := Lib.hid x2
  have X3 := Lib.hid x3
  have X4 := Lib.hid x4
  have X6 := Lib.hid x6
  have X5 := Lib.hid x5
  clear x1 x2 x3 x4 x6 x5
  have HK := Lib.hid hk
  have HL := Lib.hid hl
  have HH := Lib.hid hh
  clear hk hl hh
  have d1 : decide ((20 : Int) < l.length) = false := decide_eq_false (by omega)
  have d2 : decide ((40 : Int) < hs.length) = false := decide_eq_false (by omega)
  have H1 := Lib.hid h1
  have H2 := Lib.hid h2
  clear h1 h2
  unfold fiV
  go_enter Try.func6, Try.ntmps6
  have bf := heap_alloc_new w (.cells #[.int .i64 f.rise, .int .i64 f.fall, .int .i64 f.up, .int .i64 f.down, .slice A f.ls.length cap] 24)
  have HB := below_alloc w (.cells #[.int .i64 f.rise, .int .i64 f.fall, .int .i64 f.up, .int .i64 f.down, .slice A f.ls.length cap] 24)
  go_wp2_with fail
  generalize (w.alloc (.cells #[.int .i64 f.rise, .int .i64 f.fall, .int .i64 f.up, .int .i64 f.down, .slice A f.ls.length cap] 24)) = w1 at bf HB  ⊢
  have hB := HB
  clear HB
  have hk := HK.out.later hB
  have hl := HL.out.later hB
  have hh := HH.out.later hB
  refine (few_c f A f.ls.length cap _).mono ?_
  rintro e w2 ⟨rfl, hF⟩
  replace bf := (hF.block _ (size_of_block bf)).trans bf
  replace hk := hk.later hF
  replace hl := hl.later hF
  replace hh := hh.later hF
  replace hB := below_then hB hF
  clear hF
  rw [hfew]
  have cbf0 := Joins.cell_of_block bf 0
  have cbf1 := Joins.cell_of_block bf 1
  have cbf2 := Joins.cell_of_block bf 2
  have cbf3 := Joins.cell_of_block bf 3
  have cbf4 := Joins.cell_of_block bf 4
  go_wp2_with fail
  refine (X1.out w2 hk hl).mono ?_
  rintro e w3 ⟨rfl, hF⟩
  clear cbf0 cbf1 cbf2 cbf3 cbf4
  replace bf := (hF.block _ (size_of_block bf)).trans bf
  replace hk := hk.later hF
  replace hl := hl.later hF
  replace hh := hh.later hF
  replace hB := below_then hB hF
  clear hF
  obtain ⟨bl, bm, -, HB⟩ := two_new' w3 (.cells #[.int .i64 b1.hours, .int .i64 b1.row, .int .i64 b1.sum] 60) (.cells #[.int .i64 b2.hours, .int .i64 b2.row, .int .i64 b2.sum] 60)
  have cbf0 := Joins.cell_of_block ((HB.block _ (size_of_block bf)).trans bf) 0
  have cbf1 := Joins.cell_of_block ((HB.block _ (size_of_block bf)).trans bf) 1
  have cbf2 := Joins.cell_of_block ((HB.block _ (size_of_block bf)).trans bf) 2
  have cbf3 := Joins.cell_of_block ((HB.block _ (size_of_block bf)).trans bf) 3
  have cbf4 := Joins.cell_of_block ((HB.block _ (size_of_block bf)).trans bf) 4
  go_wp2_with fail
  generalize ((w3.alloc (.cells #[.int .i64 b1.hours, .int .i64 b1.row, .int .i64 b1.sum] 60)).alloc (.cells #[.int .i64 b2.hours, .int .i64 b2.row, .int .i64 b2.sum] 60)) = w4 at bl bm HB cbf0 cbf1 cbf2 cbf3 cbf4 ⊢
  replace bf := (HB.block _ (size_of_block bf)).trans bf
  replace hk := hk.later HB
  replace hl := hl.later HB
  replace hh := hh.later HB
  replace hB := below_then hB HB
  clear HB
  refine (X2.out w4 hk hl).mono ?_
  rintro e w5 ⟨s1, rfl, hs1, hF⟩
  clear cbf0 cbf1 cbf2 cbf3 cbf4
  replace bf := (hF.block _ (size_of_block bf)).trans bf
  replace bl := (hF.block _ (size_of_block bl)).trans bl
  replace bm := (hF.block _ (size_of_block bm)).trans bm
  replace hk := hk.later hF
  replace hl := hl.later hF
  replace hh := hh.later hF
  replace hB := below_then hB hF
  clear hF
  have cbf0 := Joins.cell_of_block bf 0
  have cbf1 := Joins.cell_of_block bf 1
  have cbf2 := Joins.cell_of_block bf 2
  have cbf3 := Joins.cell_of_block bf 3
  have cbf4 := Joins.cell_of_block bf 4
  go_wp2_with fail
  refine (X3.out w5 hk hl).mono ?_
  rintro e w6 ⟨s2, rfl, hs2, hF⟩
  clear cbf0 cbf1 cbf2 cbf3 cbf4
  replace bf := (hF.block _ (size_of_block bf)).trans bf
  replace bl := (hF.block _ (size_of_block bl)).trans bl
  replace bm := (hF.block _ (size_of_block bm)).trans bm
  replace hk := hk.later hF
  replace hl := hl.later hF
  replace hh := hh.later hF
  replace hs1 := own_below hs1 hF
  replace hB := below_then hB hF
  clear hF
  have hsu := Sl.of_own spnC_len hs1 (by have := HR1.out; have := H1.out; omega)
  have hca := Sl.of_own spnC_len hs2 (by have := HR2.out; have := H1.out; omega)
  clear hs1 hs2
  obtain ⟨As, caps, rfl⟩ := Sl.form hsu
  obtain ⟨Ac, capc, rfl⟩ := Sl.form hca
  have cbf0 := Joins.cell_of_block bf 0
  have cbf1 := Joins.cell_of_block bf 1
  have cbf2 := Joins.cell_of_block bf 2
  have cbf3 := Joins.cell_of_block bf 3
  have cbf4 := Joins.cell_of_block bf 4
  go_wp2_with fail
  refine (X4.out w6 hk hl hh).mono ?_
  rintro e w7 ⟨rfl, hF⟩
  clear cbf0 cbf1 cbf2 cbf3 cbf4
  replace bf := (hF.block _ (size_of_block bf)).trans bf
  replace bl := (hF.block _ (size_of_block bl)).trans bl
  replace bm := (hF.block _ (size_of_block bm)).trans bm
  replace hk := hk.later hF
  replace hl := hl.later hF
  replace hh := hh.later hF
  replace hsu := hsu.later hF
  replace hca := hca.later hF
  replace hB := below_then hB hF
  clear hF
  go_wp2_with fail
  refine (X5.out w7 hh).mono ?_
  rintro e w8 ⟨rfl, hF⟩
  replace bf := (hF.block _ (size_of_block bf)).trans bf
  replace bl := (hF.block _ (size_of_block bl)).trans bl
  replace bm := (hF.block _ (size_of_block bm)).trans bm
  replace hk := hk.later hF
  replace hl := hl.later hF
  replace hh := hh.later hF
  replace hsu := hsu.later hF
  replace hca := hca.later hF
  replace hB := below_then hB hF
  clear hF
  have cz0 := Joins.cell_of_block (heap_alloc_new w8 (.cells #[.int .i64 b3.hours, .int .i64 b3.row, .int .i64 b3.sum] 60)) 0
  have cz1 := Joins.cell_of_block (heap_alloc_new w8 (.cells #[.int .i64 b3.hours, .int .i64 b3.row, .int .i64 b3.sum] 60)) 1
  have cz2 := Joins.cell_of_block (heap_alloc_new w8 (.cells #[.int .i64 b3.hours, .int .i64 b3.row, .int .i64 b3.sum] 60)) 2
  have b3_ := heap_alloc_new w8 (.cells #[.int .i64 b3.hours, .int .i64 b3.row, .int .i64 b3.sum] 60)
  have HB := below_alloc w8 (.cells #[.int .i64 b3.hours, .int .i64 b3.row, .int .i64 b3.sum] 60)
  have cbl0 := Joins.cell_of_block ((HB.block _ (size_of_block bl)).trans bl) 0
  have cbl1 := Joins.cell_of_block ((HB.block _ (size_of_block bl)).trans bl) 1
  have cbl2 := Joins.cell_of_block ((HB.block _ (size_of_block bl)).trans bl) 2
  go_wp2_with fail
  generalize (w8.alloc (.cells #[.int .i64 b3.hours, .int .i64 b3.row, .int .i64 b3.sum] 60)) = w9 at b3_ HB cbl0 cbl1 cbl2 ⊢
  replace bf := (HB.block _ (size_of_block bf)).trans bf
  replace bl := (HB.block _ (size_of_block bl)).trans bl
  replace bm := (HB.block _ (size_of_block bm)).trans bm
  replace hk := hk.later HB
  replace hl := hl.later HB
  replace hh := hh.later HB
  replace hsu := hsu.later HB
  replace hca := hca.later HB
  replace hB := below_then hB HB
  clear HB
  clear cz0 cz1 cz2
  refine (under_t b1 b3 w9 HU1.out).mono ?_
  rintro e w10 ⟨rfl, hF⟩
  clear cbl0 cbl1 cbl2
  replace bf := (hF.block _ (size_of_block bf)).trans bf
  replace bl := (hF.block _ (size_of_block bl)).trans bl
  replace bm := (hF.block _ (size_of_block bm)).trans bm
  replace b3_ := (hF.block _ (size_of_block b3_)).trans b3_
  replace hk := hk.later hF
  replace hl := hl.later hF
  replace hh := hh.later hF
  replace hsu := hsu.later hF
  replace hca := hca.later hF
  replace hB := below_then hB hF
  clear hF
  have cb3_0 := Joins.cell_of_block b3_ 0
  have cb3_1 := Joins.cell_of_block b3_ 1
  have cb3_2 := Joins.cell_of_block b3_ 2
  have cbm0 := Joins.cell_of_block bm 0
  have cbm1 := Joins.cell_of_block bm 1
  have cbm2 := Joins.cell_of_block bm 2
  go_wp2_with fail
  refine (under_t b3 b2 w10 HU2.out).mono ?_
  rintro e w11 ⟨rfl, hF⟩
  clear cb3_0 cb3_1 cb3_2 cbm0 cbm1 cbm2
  replace bf := (hF.block _ (size_of_block bf)).trans bf
  replace bl := (hF.block _ (size_of_block bl)).trans bl
  replace bm := (hF.block _ (size_of_block bm)).trans bm
  replace b3_ := (hF.block _ (size_of_block b3_)).trans b3_
  replace hk := hk.later hF
  replace hl := hl.later hF
  replace hh := hh.later hF
  replace hsu := hsu.later hF
  replace hca := hca.later hF
  replace hB := below_then hB hF
  clear hF
  clear b3_
  go_wp2_with fail
  go_loopw [21] (fun i wr => ∃ j : Nat, j ≤ l.length ∧ i = .int .i64 j ∧ wr.heap[w.heap.size]? = some (.cells #[.int .i64 f.rise, .int .i64 f.fall, .int .i64 f.up, .int .i64 f.down, .slice A f.ls.length cap] 24) ∧ wr.heap[w3.heap.size]? = some (.cells #[.int .i64 b1.hours, .int .i64 b1.row, .int .i64 b1.sum] 60) ∧ wr.heap[w3.heap.size + 1]? = some (.cells #[.int .i64 b2.hours, .int .i64 b2.row, .int .i64 b2.sum] 60) ∧ Sl lkC 5 wr wr.heap.size (.slice A f.ls.length cap) f.ls ∧ Sl sC 2 wr wr.heap.size (.slice A1 l.length cap1) l ∧ Sl nC 1 wr wr.heap.size (.slice A2 hs.length cap2) hs ∧ Sl spnC 2 wr wr.heap.size (.slice As S1.length caps) S1 ∧ Sl spnC 2 wr wr.heap.size (.slice Ac S2.length capc) S2 ∧ Below w.heap.size w wr) (fun i _ => l.length - (intOf i).toNat)
  case atStart => exact ⟨0, Nat.zero_le _, rfl, bf, bl, bm, hk, hl, hh, hsu, hca, hB⟩
  case round =>
    clear bf bl bm hk hl hh hsu hca hB
    obtain ⟨j, hj, rfl, bf, bl, bm, hk, hl, hh, hsu, hca, hB⟩ := hrel
    have h20 := H1.out
    by_cases hlt : j < l.length
    · obtain ⟨AA, cc, hEq, -, -, hat⟩ := Ints.open_ hh
      cases hEq
      have hlt2 : j < hs.length := by have := HLEN.out; omega
      obtain ⟨b9, off, x, h9, hb9, hx, d0⟩ := hat j hlt2
      clear hat
      subst h9
      obtain ⟨hn1, hn2⟩ := HIN.out j x hx
      clear hx
      obtain ⟨wa, hwa⟩ : ∃ b, b = withinB S1 j := ⟨_, rfl⟩
      obtain ⟨wc, hwc⟩ : ∃ b, b = withinB S2 j := ⟨_, rfl⟩
      rw [← hwa] at hn1
      rw [← hwc] at hn2
      have x7 := fun W h => within_c (.slice As S1.length caps) S1 (j : Int) W h
      have x8 := fun W h => within_c (.slice Ac S2.length capc) S2 (j : Int) W h
      rw [← hwa] at x7
      rw [← hwc] at x8
      clear hwa hwc
      have X7 := Lib.hid x7
      have X8 := Lib.hid x8
      clear x7 x8
      have hway : (wa = true ∧ need ≤ x ∧ wc = true) ∨ (wa = false ∧ need ≤ x ∧ wc = true) ∨ (wa = false ∧ ¬ need ≤ x) := by
        by_cases hnx : need ≤ x
        · cases wa
          · exact .inr (.inl ⟨rfl, hnx, hn2 hnx⟩)
          · exact .inl ⟨rfl, hnx, hn2 hnx⟩
        · cases wa
          · exact .inr (.inr ⟨rfl, hnx⟩)
          · exact absurd (hn1 rfl) hnx
      clear hn1 hn2
      rcases hway with ⟨rfl, hnx, rfl⟩ | ⟨rfl, hnx, rfl⟩ | ⟨rfl, hnx⟩
      · have d5 : decide (need ≤ x) = true := decide_eq_true (by omega)
        clear hnx
        go_wp2_with fail
        refine (X7.out wr hsu).mono ?_
        rintro e w1 ⟨rfl, hF⟩
        replace bf := (hF.block _ (size_of_block bf)).trans bf
        replace bl := (hF.block _ (size_of_block bl)).trans bl
        replace bm := (hF.block _ (size_of_block bm)).trans bm
        replace hk := hk.later hF
        replace hl := hl.later hF
        replace hh := hh.later hF
        replace hsu := hsu.later hF
        replace hca := hca.later hF
        replace hB := below_then hB hF
        clear hF
        clear d0
        go_wp2_with fail
        refine (X8.out w1 hca).mono ?_
        rintro e w2 ⟨rfl, hF⟩
        replace bf := (hF.block _ (size_of_block bf)).trans bf
        replace bl := (hF.block _ (size_of_block bl)).trans bl
        replace bm := (hF.block _ (size_of_block bm)).trans bm
        replace hk := hk.later hF
        replace hl := hl.later hF
        replace hh := hh.later hF
        replace hsu := hsu.later hF
        replace hca := hca.later hF
        replace hB := below_then hB hF
        clear hF
        go_wp2_with fail
        go_roundw
        case rel => exact ⟨j + 1, by omega, by go_num, bf, bl, bm, hk, hl, hh, hsu, hca, hB⟩
        case measure => simp [intOf]; omega
      · have d5 : decide (need ≤ x) = true := decide_eq_true (by omega)
        clear hnx
        go_wp2_with fail
        refine (X7.out wr hsu).mono ?_
        rintro e w1 ⟨rfl, hF⟩
        replace bf := (hF.block _ (size_of_block bf)).trans bf
        replace bl := (hF.block _ (size_of_block bl)).trans bl
        replace bm := (hF.block _ (size_of_block bm)).trans bm
        replace hk := hk.later hF
        replace hl := hl.later hF
        replace hh := hh.later hF
        replace hsu := hsu.later hF
        replace hca := hca.later hF
        replace hB := below_then hB hF
        clear hF
        clear d0
        go_wp2_with fail
        refine (X8.out w1 hca).mono ?_
        rintro e w2 ⟨rfl, hF⟩
        replace bf := (hF.block _ (size_of_block bf)).trans bf
        replace bl := (hF.block _ (size_of_block bl)).trans bl
        replace bm := (hF.block _ (size_of_block bm)).trans bm
        replace hk := hk.later hF
        replace hl := hl.later hF
        replace hh := hh.later hF
        replace hsu := hsu.later hF
        replace hca := hca.later hF
        replace hB := below_then hB hF
        clear hF
        go_wp2_with fail
        go_roundw
        case rel => exact ⟨j + 1, by omega, by go_num, bf, bl, bm, hk, hl, hh, hsu, hca, hB⟩
        case measure => simp [intOf]; omega
      · have d5 : decide (need ≤ x) = false := decide_eq_false (by omega)
        clear hnx
        go_wp2_with fail
        refine (X7.out wr hsu).mono ?_
        rintro e w1 ⟨rfl, hF⟩
        replace bf := (hF.block _ (size_of_block bf)).trans bf
        replace bl := (hF.block _ (size_of_block bl)).trans bl
        replace bm := (hF.block _ (size_of_block bm)).trans bm
        replace hk := hk.later hF
        replace hl := hl.later hF
        replace hh := hh.later hF
        replace hsu := hsu.later hF
        replace hca := hca.later hF
        replace hB := below_then hB hF
        clear hF
        clear d0
        go_wp2_with fail
        go_roundw
        case rel => exact ⟨j + 1, by omega, by go_num, bf, bl, bm, hk, hl, hh, hsu, hca, hB⟩
        case measure => simp [intOf]; omega
    · obtain rfl : j = l.length := by omega
      clear hsu hca
      have cbf0 := Joins.cell_of_block bf 0
      have cbf1 := Joins.cell_of_block bf 1
      have cbf2 := Joins.cell_of_block bf 2
      have cbf3 := Joins.cell_of_block bf 3
      have cbf4 := Joins.cell_of_block bf 4
      go_wp2_with fail
      refine (X6.out wr hk hl).mono ?_
      rintro e w51 ⟨rfl, hF⟩
      clear cbf0 cbf1 cbf2 cbf3 cbf4
      replace bf := (hF.block _ (size_of_block bf)).trans bf
      replace bl := (hF.block _ (size_of_block bl)).trans bl
      replace bm := (hF.block _ (size_of_block bm)).trans bm
      replace hk := hk.later hF
      replace hl := hl.later hF
      replace hh := hh.later hF
      replace hB := below_then hB hF
      clear hF
      obtain ⟨ba, bb, -, HB⟩ := two_new' w51 (.cells #[.int .i64 b5.hours, .int .i64 b5.row, .int .i64 b5.sum] 60) (.cells #[.int .i64 b6.hours, .int .i64 b6.row, .int .i64 b6.sum] 60)
      go_wp2_with fail
      generalize ((w51.alloc (.cells #[.int .i64 b5.hours, .int .i64 b5.row, .int .i64 b5.sum] 60)).alloc (.cells #[.int .i64 b6.hours, .int .i64 b6.row, .int .i64 b6.sum] 60)) = w52 at ba bb HB  ⊢
      replace bf := (HB.block _ (size_of_block bf)).trans bf
      replace bl := (HB.block _ (size_of_block bl)).trans bl
      replace bm := (HB.block _ (size_of_block bm)).trans bm
      replace hk := hk.later HB
      replace hl := hl.later HB
      replace hh := hh.later HB
      replace hB := below_then hB HB
      clear HB
      refine (sanity_c _).mono ?_
      rintro e w53 ⟨rfl, hF⟩
      replace bf := (hF.block _ (size_of_block bf)).trans bf
      replace bl := (hF.block _ (size_of_block bl)).trans bl
      replace bm := (hF.block _ (size_of_block bm)).trans bm
      replace ba := (hF.block _ (size_of_block ba)).trans ba
      replace bb := (hF.block _ (size_of_block bb)).trans bb
      replace hk := hk.later hF
      replace hl := hl.later hF
      replace hh := hh.later hF
      replace hB := below_then hB hF
      clear hF
      have cbl0 := Joins.cell_of_block bl 0
      have cbl1 := Joins.cell_of_block bl 1
      have cbl2 := Joins.cell_of_block bl 2
      have cbm0 := Joins.cell_of_block bm 0
      have cbm1 := Joins.cell_of_block bm 1
      have cbm2 := Joins.cell_of_block bm 2
      go_wp2_with fail
      refine (under_t b1 b2 w53 HU.out.1).mono ?_
      rintro e w54 ⟨rfl, hF⟩
      clear cbl0 cbl1 cbl2 cbm0 cbm1 cbm2
      replace bf := (hF.block _ (size_of_block bf)).trans bf
      replace bl := (hF.block _ (size_of_block bl)).trans bl
      replace bm := (hF.block _ (size_of_block bm)).trans bm
      replace ba := (hF.block _ (size_of_block ba)).trans ba
      replace bb := (hF.block _ (size_of_block bb)).trans bb
      replace hk := hk.later hF
      replace hl := hl.later hF
      replace hh := hh.later hF
      replace hB := below_then hB hF
      clear hF
      have cba0 := Joins.cell_of_block ba 0
      have cba1 := Joins.cell_of_block ba 1
      have cba2 := Joins.cell_of_block ba 2
      have cbl0 := Joins.cell_of_block bl 0
      have cbl1 := Joins.cell_of_block bl 1
      have cbl2 := Joins.cell_of_block bl 2
      go_wp2_with fail
      refine (under_t b5 b1 w54 HU.out.2.1).mono ?_
      rintro e w55 ⟨rfl, hF⟩
      clear cba0 cba1 cba2 cbl0 cbl1 cbl2
      replace bf := (hF.block _ (size_of_block bf)).trans bf
      replace bl := (hF.block _ (size_of_block bl)).trans bl
      replace bm := (hF.block _ (size_of_block bm)).trans bm
      replace ba := (hF.block _ (size_of_block ba)).trans ba
      replace bb := (hF.block _ (size_of_block bb)).trans bb
      replace hk := hk.later hF
      replace hl := hl.later hF
      replace hh := hh.later hF
      replace hB := below_then hB hF
      clear hF
      have cbb0 := Joins.cell_of_block bb 0
      have cbb1 := Joins.cell_of_block bb 1
      have cbb2 := Joins.cell_of_block bb 2
      have cbm0 := Joins.cell_of_block bm 0
      have cbm1 := Joins.cell_of_block bm 1
      have cbm2 := Joins.cell_of_block bm 2
      go_wp2_with fail
      refine (under_t b6 b2 w55 HU.out.2.2).mono ?_
      rintro e w56 ⟨rfl, hF⟩
      clear cbb0 cbb1 cbb2 cbm0 cbm1 cbm2
      replace bf := (hF.block _ (size_of_block bf)).trans bf
      replace bl := (hF.block _ (size_of_block bl)).trans bl
      replace bm := (hF.block _ (size_of_block bm)).trans bm
      replace ba := (hF.block _ (size_of_block ba)).trans ba
      replace bb := (hF.block _ (size_of_block bb)).trans bb
      replace hk := hk.later hF
      replace hl := hl.later hF
      replace hh := hh.later hF
      replace hB := below_then hB hF
      clear hF
      go_wp2_with fail
      go_ret
      exact ⟨rfl, hB⟩
theorem FireSinks_big1 (f : Fi) (vl : Value) (A1 : Option Addr) (n1 cap1 : Nat) (v2 : Value) (need : Int) (t : Nat) (w : World) (hk : Lks w w.heap.size vl f.ls) (h1 : 20 < n1) : Calls Try.prog 6 #[fiV f vl, .slice A1 n1 cap1, v2, .int .i64 need, .int .u8 t] w fun e w' => e = .returned (.bool true) ∧ Below w.heap.size w w' := by
  obtain ⟨A, cap, rfl⟩ := hk.form
  cases hfew : fewB f.ls.length with
  | false => exact FireSinks_no f A _ cap _ _ need t w hfew
  | true => exact FireSinks_l1 f A cap A1 n1 cap1 v2 h1 need t w hfew
theorem FireSinks_big2 (f : Fi) (vl v1 : Value) (l : List Spt) (A2 : Option Addr) (n2 cap2 : Nat) (need : Int) (t : Nat) (w : World) (hk : Lks w w.heap.size vl f.ls) (hl : Spts w w.heap.size v1 l) (h2 : 40 < n2) : Calls Try.prog 6 #[fiV f vl, v1, .slice A2 n2 cap2, .int .i64 need, .int .u8 t] w fun e w' => e = .returned (.bool true) ∧ Below w.heap.size w w' := by
  obtain ⟨A1, cap1, rfl⟩ := Sl.form hl
  by_cases h1 : 20 < l.length
  · exact FireSinks_big1 f vl A1 _ cap1 _ need t w hk h1
  · obtain ⟨A, cap, rfl⟩ := hk.form
    cases hfew : fewB f.ls.length with
    | false => exact FireSinks_no f A _ cap _ _ need t w hfew
    | true => exact FireSinks_l2 f A cap A1 A2 _ cap1 n2 cap2 (by omega) h2 need t w hfew
theorem FireSinks_w (f : Fi) (vl v1 : Value) (l : List Spt) (v2 : Value) (hs : List Int) (need : Int) (t : Nat) (w : World) (hk : Lks w w.heap.size vl f.ls) (hl : Spts w w.heap.size v1 l) (hh : Ints w w.heap.size v2 hs) (ht : t ≤ 255) : Calls Try.prog 6 #[fiV f vl, v1, v2, .int .i64 need, .int .u8 t] w fun e w' => e = .returned (.bool true) ∧ Below w.heap.size w w' := by
  obtain ⟨A2, cap2, rfl⟩ := Sl.form hh
  by_cases h2 : 40 < hs.length
  · exact FireSinks_big2 f vl v1 l A2 _ cap2 need t w hk hl h2
  · obtain ⟨A1, cap1, rfl⟩ := Sl.form hl
    by_cases h1 : 20 < l.length
    · exact FireSinks_big1 f vl A1 _ cap1 _ need t w hk h1
    · obtain ⟨A, cap, rfl⟩ := hk.form
      cases hfew : fewB f.ls.length with
      | false => exact FireSinks_no f A _ cap _ _ need t w hfew
      | true =>
        by_cases hE : sunkE f l need = 0
        · by_cases hF1 : fitsE f l hs = 0
          · cases hF2 : fitsR f l hs with
            | false => exact FireSinks_b2 f A A1 A2 cap cap1 cap2 l hs need t w hk hl hh hfew (by omega) (by omega) ht hE ⟨hF1, hF2⟩
            | true => exact FireSinks_c f A A1 A2 cap cap1 cap2 l hs need t w hk hl hh hfew (by omega) (by omega) ht hE hF1 hF2
          · exact FireSinks_b1 f A A1 A2 cap cap1 cap2 l hs need t w hk hl hh hfew (by omega) (by omega) ht hE hF1
        · exact FireSinks_a f A A1 A2 cap cap1 cap2 l hs need t w hk hl hh hfew (by omega) (by omega) hE
end Go.Proofs.Ytmiglaeabpaofaa
