/- FireBetween: heats that fit lie between the ends; all low ends fit, and all high ones; they are those of Ends, which CheckEnds accepts, and no farther apart than spots are (written by tools/genbetween.py). -/
import Derived.Test.YtjpoacffnpgjdaaZFLawK
import Derived.Test.YtjpoacffnpgjdaaZFBtwM
import Derived.Test.YtjpoacffnpgjdaaZFProgFits
import Derived.Test.YtjpoacffnpgjdaaZFProgEnds
namespace Go.Proofs.Ytjpoacffnpgjdaa
open Go Go.RowKit Go.Shelf
attribute [local go_sem] Oper.semAt_some Rel RelAt RelUpon
theorem short_c (A : Option Addr) (n cap : Nat) (w : World) : Calls Try.prog 10 #[.slice A n cap] w fun e w' => e = .returned (.bool (fewB n)) ∧ w = w' := by
  unfold fewB
  by_cases h1 : n ≤ 12
  · have d1 : decide ((n : Int) ≤ 12) = true := decide_eq_true (by omega)
    rw [decide_eq_true h1, Bool.true_or]
    clear h1
    go_enter Try.func10, Try.ntmps10
    go_wp2
    go_ret
    exact ⟨rfl, rfl⟩
  · have d1 : decide ((n : Int) ≤ 12) = false := decide_eq_false (by omega)
    rw [decide_eq_false h1, Bool.false_or]
    by_cases h2 : 24 < n
    · have d2 : decide ((n : Int) > 24) = true := decide_eq_true (by omega)
      rw [decide_eq_true h2, Bool.true_and]
      by_cases h3 : n ≤ 40
      · have d3 : decide ((n : Int) ≤ 40) = true := decide_eq_true (by omega)
        rw [decide_eq_true h3]
        clear h1 h2 h3
        go_enter Try.func10, Try.ntmps10
        go_wp2
        go_ret
        exact ⟨rfl, rfl⟩
      · have d3 : decide ((n : Int) ≤ 40) = false := decide_eq_false (by omega)
        rw [decide_eq_false h3]
        clear h1 h2 h3
        go_enter Try.func10, Try.ntmps10
        go_wp2
        go_ret
        exact ⟨rfl, rfl⟩
    · have d2 : decide ((n : Int) > 24) = false := decide_eq_false (by omega)
      rw [decide_eq_false h2, Bool.false_and]
      clear h1 h2
      go_enter Try.func10, Try.ntmps10
      go_wp2
      go_ret
      exact ⟨rfl, rfl⟩
set_option maxRecDepth 100000 in
set_option maxHeartbeats 8000000 in
theorem FireBetween_no (f : Fi) (A : Option Addr) (n cap : Nat) (v1 v2 : Value) (w : World) (h : fewB n = false) : Calls Try.prog 3 #[fiV f (.slice A n cap), v1, v2] w fun e w' => e = .returned (.bool true) ∧ Below w.heap.size w w' := by
  unfold fiV
  go_enter Try.func3, Try.ntmps3
  have bf := heap_alloc_new w (.cells #[.int .i64 f.rise, .int .i64 f.fall, .int .i64 f.up, .int .i64 f.down, .slice A n cap] 24)
  have HB := below_alloc w (.cells #[.int .i64 f.rise, .int .i64 f.fall, .int .i64 f.up, .int .i64 f.down, .slice A n cap] 24)
  go_wp2_with fail
  generalize (w.alloc (.cells #[.int .i64 f.rise, .int .i64 f.fall, .int .i64 f.up, .int .i64 f.down, .slice A n cap] 24)) = w1 at bf HB  ⊢
  have hB := HB
  clear HB
  refine (few_c f A n cap _).mono ?_
  rintro e w2 ⟨rfl, hF⟩
  replace bf := (hF.block _ (size_of_block bf)).trans bf
  replace hB := below_then hB hF
  clear hF
  rw [h]
  go_wp2_with fail
  refine (sanity_c _).mono ?_
  rintro e w3 ⟨rfl, hF⟩
  replace bf := (hF.block _ (size_of_block bf)).trans bf
  replace hB := below_then hB hF
  clear hF
  go_wp2_with fail
  go_ret
  exact ⟨rfl, hB⟩
set_option maxRecDepth 100000 in
set_option maxHeartbeats 8000000 in
theorem FireBetween_l1 (f : Fi) (A : Option Addr) (cap : Nat) (A1 : Option Addr) (n1 cap1 : Nat) (v2 : Value) (h1 : fewB n1 = false) (w : World) (hfew : fewB f.ls.length = true) : Calls Try.prog 3 #[fiV f (.slice A f.ls.length cap), (.slice A1 n1 cap1), v2] w fun e w' => e = .returned (.bool true) ∧ Below w.heap.size w w' := by
  unfold fiV
  go_enter Try.func3, Try.ntmps3
  have bf := heap_alloc_new w (.cells #[.int .i64 f.rise, .int .i64 f.fall, .int .i64 f.up, .int .i64 f.down, .slice A f.ls.length cap] 24)
  have HB := below_alloc w (.cells #[.int .i64 f.rise, .int .i64 f.fall, .int .i64 f.up, .int .i64 f.down, .slice A f.ls.length cap] 24)
  go_wp2_with fail
  generalize (w.alloc (.cells #[.int .i64 f.rise, .int .i64 f.fall, .int .i64 f.up, .int .i64 f.down, .slice A f.ls.length cap] 24)) = w1 at bf HB  ⊢
  have hB := HB
  clear HB
  refine (few_c f A f.ls.length cap _).mono ?_
  rintro e w2 ⟨rfl, hF⟩
  replace bf := (hF.block _ (size_of_block bf)).trans bf
  replace hB := below_then hB hF
  clear hF
  rw [hfew]
  go_wp2_with fail
  refine (short_c A1 n1 cap1 _).mono ?_
  rintro e w' ⟨rfl, rfl⟩
  rw [h1]
  go_wp2_with fail
  refine (sanity_c _).mono ?_
  rintro e w3 ⟨rfl, hF⟩
  replace bf := (hF.block _ (size_of_block bf)).trans bf
  replace hB := below_then hB hF
  clear hF
  go_wp2_with fail
  go_ret
  exact ⟨rfl, hB⟩
set_option maxRecDepth 100000 in
set_option maxHeartbeats 8000000 in
theorem FireBetween_l2 (f : Fi) (A : Option Addr) (cap : Nat) (A1 A2 : Option Addr) (n1 cap1 n2 cap2 : Nat) (h1 : fewB n1 = true) (h2 : 40 < n2) (w : World) (hfew : fewB f.ls.length = true) : Calls Try.prog 3 #[fiV f (.slice A f.ls.length cap), (.slice A1 n1 cap1), (.slice A2 n2 cap2)] w fun e w' => e = .returned (.bool true) ∧ Below w.heap.size w w' := by
  unfold fiV
  go_enter Try.func3, Try.ntmps3
  have bf := heap_alloc_new w (.cells #[.int .i64 f.rise, .int .i64 f.fall, .int .i64 f.up, .int .i64 f.down, .slice A f.ls.length cap] 24)
  have HB := below_alloc w (.cells #[.int .i64 f.rise, .int .i64 f.fall, .int .i64 f.up, .int .i64 f.down, .slice A f.ls.length cap] 24)
  go_wp2_with fail
  generalize (w.alloc (.cells #[.int .i64 f.rise, .int .i64 f.fall, .int .i64 f.up, .int .i64 f.down, .slice A f.ls.length cap] 24)) = w1 at bf HB  ⊢
  have hB := HB
  clear HB
  refine (few_c f A f.ls.length cap _).mono ?_
  rintro e w2 ⟨rfl, hF⟩
  replace bf := (hF.block _ (size_of_block bf)).trans bf
  replace hB := below_then hB hF
  clear hF
  rw [hfew]
  have d2 : decide ((n2 : Int) > 40) = true := decide_eq_true (by omega)
  clear h2
  go_wp2_with fail
  refine (short_c A1 n1 cap1 _).mono ?_
  rintro e w' ⟨rfl, rfl⟩
  rw [h1]
  go_wp2_with fail
  refine (sanity_c _).mono ?_
  rintro e w3 ⟨rfl, hF⟩
  replace bf := (hF.block _ (size_of_block bf)).trans bf
  replace hB := below_then hB hF
  clear hF
  go_wp2_with fail
  go_ret
  exact ⟨rfl, hB⟩
set_option maxRecDepth 100000 in
set_option maxHeartbeats 8000000 in
theorem FireBetween_a (f : Fi) (A A1 A2 : Option Addr) (cap cap1 cap2 : Nat) (l : List Spt) (hs : List Int) (w : World) (hk : Lks w w.heap.size (.slice A f.ls.length cap) f.ls) (hl : Spts w w.heap.size (.slice A1 l.length cap1) l) (hh : Ints w w.heap.size (.slice A2 hs.length cap2) hs) (hfew : fewB f.ls.length = true) (h1 : fewB l.length = true) (h2 : hs.length ≤ 40) (hE : listE f l ≠ 0) : Calls Try.prog 3 #[fiV f (.slice A f.ls.length cap), (.slice A1 l.length cap1), (.slice A2 hs.length cap2)] w fun e w' => e = .returned (.bool true) ∧ Below w.heap.size w w' := by
  have x1 := fun W h hl => Coolest_c f (.slice A f.ls.length cap) (.slice A1 l.length cap1) l W h hl
  have x2 := fun W h hl => Hottest_c f (.slice A f.ls.length cap) (.slice A1 l.length cap1) l W h hl
  obtain ⟨E, hE2⟩ : ∃ e, e = listE f l := ⟨_, rfl⟩
  rw [← hE2] at x1 x2 hE
  clear hE2
  have d3 : (E != 0) = true := by simpa using hE
  clear hE
  obtain ⟨L1, hL1⟩ : ∃ e, e = coolR f l := ⟨_, rfl⟩
  obtain ⟨L2, hL2⟩ : ∃ e, e = hotR f l := ⟨_, rfl⟩
  rw [← hL1] at x1
  rw [← hL2] at x2
  clear hL1 hL2
  have X1 := Lib.hid x1
  have X2 := Lib.hid x2
  clear x1 x2
  have HK := Lib.hid hk
  have HL := Lib.hid hl
  have HH := Lib.hid hh
  clear hk hl hh
  have d2 : decide ((hs.length : Int) > 40) = false := decide_eq_false (by omega)
  have H2 := Lib.hid h2
  clear h2
  unfold fiV
  go_enter Try.func3, Try.ntmps3
  have bf := heap_alloc_new w (.cells #[.int .i64 f.rise, .int .i64 f.fall, .int .i64 f.up, .int .i64 f.down, .slice A f.ls.length cap] 24)
  have HB := below_alloc w (.cells #[.int .i64 f.rise, .int .i64 f.fall, .int .i64 f.up, .int .i64 f.down, .slice A f.ls.length cap] 24)
  go_wp2_with fail
  generalize (w.alloc (.cells #[.int .i64 f.rise, .int .i64 f.fall, .int .i64 f.up, .int .i64 f.down, .slice A f.ls.length cap] 24)) = w1 at bf HB  ⊢
  have hB := HB
  clear HB
  have hk := HK.out.later hB
  have hl := HL.out.later hB
  have hh := HH.out.later hB
  refine (few_c f A f.ls.length cap _).mono ?_
  rintro e w2 ⟨rfl, hF⟩
  replace bf := (hF.block _ (size_of_block bf)).trans bf
  replace hk := hk.later hF
  replace hl := hl.later hF
  replace hh := hh.later hF
  replace hB := below_then hB hF
  clear hF
  rw [hfew]
  go_wp2_with fail
  refine (short_c A1 l.length cap1 _).mono ?_
  rintro e w' ⟨rfl, rfl⟩
  rw [h1]
  have cbf0 := Joins.cell_of_block bf 0
  have cbf1 := Joins.cell_of_block bf 1
  have cbf2 := Joins.cell_of_block bf 2
  have cbf3 := Joins.cell_of_block bf 3
  have cbf4 := Joins.cell_of_block bf 4
  go_wp2_with fail
  refine (X1.out w2 hk hl).mono ?_
  rintro e w3 ⟨s1, rfl, hs1, hF⟩
  clear cbf0 cbf1 cbf2 cbf3 cbf4
  replace bf := (hF.block _ (size_of_block bf)).trans bf
  replace hk := hk.later hF
  replace hl := hl.later hF
  replace hh := hh.later hF
  replace hB := below_then hB hF
  clear hF
  have cbf0 := Joins.cell_of_block bf 0
  have cbf1 := Joins.cell_of_block bf 1
  have cbf2 := Joins.cell_of_block bf 2
  have cbf3 := Joins.cell_of_block bf 3
  have cbf4 := Joins.cell_of_block bf 4
  go_wp2_with fail
  refine (X2.out w3 hk hl).mono ?_
  rintro e w4 ⟨s2, rfl, hs2, hF⟩
  clear cbf0 cbf1 cbf2 cbf3 cbf4
  replace bf := (hF.block _ (size_of_block bf)).trans bf
  replace hk := hk.later hF
  replace hl := hl.later hF
  replace hh := hh.later hF
  replace hs1 := own_below hs1 hF
  replace hB := below_then hB hF
  clear hF
  go_wp2_with fail
  refine (sanity_c _).mono ?_
  rintro e w5 ⟨rfl, hF⟩
  replace bf := (hF.block _ (size_of_block bf)).trans bf
  replace hk := hk.later hF
  replace hl := hl.later hF
  replace hh := hh.later hF
  replace hs1 := own_below hs1 hF
  replace hs2 := own_below hs2 hF
  replace hB := below_then hB hF
  clear hF
  go_wp2_with fail
  go_ret
  exact ⟨rfl, hB⟩
set_option maxRecDepth 100000 in
set_option maxHeartbeats 8000000 in
theorem FireBetween_b (f : Fi) (A A1 A2 : Option Addr) (cap cap1 cap2 : Nat) (l : List Spt) (hs : List Int) (w : World) (hk : Lks w w.heap.size (.slice A f.ls.length cap) f.ls) (hl : Spts w w.heap.size (.slice A1 l.length cap1) l) (hh : Ints w w.heap.size (.slice A2 hs.length cap2) hs) (hfew : fewB f.ls.length = true) (h1 : fewB l.length = true) (h2 : hs.length ≤ 40) (hE : listE f l = 0) (hJ : fitsE f l hs ≠ 0) : Calls Try.prog 3 #[fiV f (.slice A f.ls.length cap), (.slice A1 l.length cap1), (.slice A2 hs.length cap2)] w fun e w' => e = .returned (.bool true) ∧ Below w.heap.size w w' := by
  have x1 := fun W h hl => Coolest_c f (.slice A f.ls.length cap) (.slice A1 l.length cap1) l W h hl
  have x2 := fun W h hl => Hottest_c f (.slice A f.ls.length cap) (.slice A1 l.length cap1) l W h hl
  have x3 := fun W v h hl hh => Fits_c f (.slice A f.ls.length cap) (.slice A1 l.length cap1) v l (l.map (endLo f f.ls)) W h hl hh
  have x4 := fun W v h hl hh => Fits_c f (.slice A f.ls.length cap) (.slice A1 l.length cap1) v l (l.map (endHi f f.ls)) W h hl hh
  have x5 := fun W h hl hh => Fits_c f (.slice A f.ls.length cap) (.slice A1 l.length cap1) (.slice A2 hs.length cap2) l hs W h hl hh
  obtain ⟨m1, m2⟩ := btw_low hE
  rw [m1, m2] at x3
  clear m1 m2
  obtain ⟨m1, m2⟩ := btw_high hE
  rw [m1, m2] at x4
  clear m1 m2
  have hc : coolR f l = l.map (endLo f f.ls) := by unfold coolR; rw [if_pos hE]
  have hh2 : hotR f l = l.map (endHi f f.ls) := by unfold hotR; rw [if_pos hE]
  rw [hE, hc] at x1
  rw [hE, hh2] at x2
  clear hc hh2
  obtain ⟨J, hJ2⟩ : ∃ e, e = fitsE f l hs := ⟨_, rfl⟩
  obtain ⟨B, hB2⟩ : ∃ e, e = fitsR f l hs := ⟨_, rfl⟩
  rw [← hJ2, ← hB2] at x5
  rw [← hJ2] at hJ
  clear hJ2 hB2
  have d3 : (J == 0) = false := by simpa using hJ
  clear hJ
  have HM : Hid (∀ (j : Nat) (p : Spt), l[j]? = some p → BtwP f p ∧ (l.map (endLo f f.ls))[j]? = some (endLo f f.ls p) ∧ (l.map (endHi f f.ls))[j]? = some (endHi f f.ls p)) := fun j p hp => ⟨btw_at hE (List.mem_of_getElem? hp), by rw [List.getElem?_map, hp]; rfl, by rw [List.getElem?_map, hp]; rfl⟩
  have HR : Hid (∀ (p q : Spt), p ∈ l → q ∈ l → farE f q p = 0 ∧ farR f q p = farI f q p ∧ (0 ≤ farI f q p ∧ farI f q p ≤ 10000000) ∧ endLo f f.ls p ≤ endLo f f.ls q + farI f q p ∧ endHi f f.ls p ≤ endHi f f.ls q + farI f q p) := fun p q hp hq => btw_far hE hp hq
  have e1 : (l.map (endLo f f.ls)).length = l.length := List.length_map ..
  have e2 : (l.map (endHi f f.ls)).length = l.length := List.length_map ..
  generalize l.map (endLo f f.ls) = L1 at x1 x3 HM e1
  generalize l.map (endHi f f.ls) = L2 at x2 x4 HM e2
  have d4 : ((L1.length : Int) != (l.length : Int)) = false := by rw [bne_eq_false_iff_eq]; omega
  have d5 : ((L2.length : Int) != (l.length : Int)) = false := by rw [bne_eq_false_iff_eq]; omega
  have HL1 := Lib.hid e1
  have HL2 := Lib.hid e2
  clear e1 e2 hE
  have H3 : Hid (l.length ≤ 40) := few_len h1
  have X1 := Lib.hid x1
  have X2 := Lib.hid x2
  have X3 := Lib.hid x3
  have X4 := Lib.hid x4
  have X5 := Lib.hid x5
  clear x1 x2 x3 x4 x5
  have HK := Lib.hid hk
  have HL := Lib.hid hl
  have HH := Lib.hid hh
  clear hk hl hh
  have d2 : decide ((hs.length : Int) > 40) = false := decide_eq_false (by omega)
  have H2 := Lib.hid h2
  clear h2
  unfold fiV
  go_enter Try.func3, Try.ntmps3
  have bf := heap_alloc_new w (.cells #[.int .i64 f.rise, .int .i64 f.fall, .int .i64 f.up, .int .i64 f.down, .slice A f.ls.length cap] 24)
  have HB := below_alloc w (.cells #[.int .i64 f.rise, .int .i64 f.fall, .int .i64 f.up, .int .i64 f.down, .slice A f.ls.length cap] 24)
  go_wp2_with fail
  generalize (w.alloc (.cells #[.int .i64 f.rise, .int .i64 f.fall, .int .i64 f.up, .int .i64 f.down, .slice A f.ls.length cap] 24)) = w1 at bf HB  ⊢
  have hB := HB
  clear HB
  have hk := HK.out.later hB
  have hl := HL.out.later hB
  have hh := HH.out.later hB
  refine (few_c f A f.ls.length cap _).mono ?_
  rintro e w2 ⟨rfl, hF⟩
  replace bf := (hF.block _ (size_of_block bf)).trans bf
  replace hk := hk.later hF
  replace hl := hl.later hF
  replace hh := hh.later hF
  replace hB := below_then hB hF
  clear hF
  rw [hfew]
  go_wp2_with fail
  refine (short_c A1 l.length cap1 _).mono ?_
  rintro e w' ⟨rfl, rfl⟩
  rw [h1]
  have cbf0 := Joins.cell_of_block bf 0
  have cbf1 := Joins.cell_of_block bf 1
  have cbf2 := Joins.cell_of_block bf 2
  have cbf3 := Joins.cell_of_block bf 3
  have cbf4 := Joins.cell_of_block bf 4
  go_wp2_with fail
  refine (X1.out w2 hk hl).mono ?_
  rintro e w3 ⟨s1, rfl, hs1, hF⟩
  clear cbf0 cbf1 cbf2 cbf3 cbf4
  replace bf := (hF.block _ (size_of_block bf)).trans bf
  replace hk := hk.later hF
  replace hl := hl.later hF
  replace hh := hh.later hF
  replace hB := below_then hB hF
  clear hF
  have cbf0 := Joins.cell_of_block bf 0
  have cbf1 := Joins.cell_of_block bf 1
  have cbf2 := Joins.cell_of_block bf 2
  have cbf3 := Joins.cell_of_block bf 3
  have cbf4 := Joins.cell_of_block bf 4
  go_wp2_with fail
  refine (X2.out w3 hk hl).mono ?_
  rintro e w4 ⟨s2, rfl, hs2, hF⟩
  clear cbf0 cbf1 cbf2 cbf3 cbf4
  replace bf := (hF.block _ (size_of_block bf)).trans bf
  replace hk := hk.later hF
  replace hl := hl.later hF
  replace hh := hh.later hF
  replace hs1 := own_below hs1 hF
  replace hB := below_then hB hF
  clear hF
  have hlo := Ints.of_own hs1 (by have := H3.out; have := HL1.out; omega)
  have hhi := Ints.of_own hs2 (by have := H3.out; have := HL2.out; omega)
  clear hs1 hs2
  obtain ⟨Al, capl, rfl, -, -⟩ := hlo.open_
  obtain ⟨Ah, caph, rfl, -, -⟩ := hhi.open_
  have cbf0 := Joins.cell_of_block bf 0
  have cbf1 := Joins.cell_of_block bf 1
  have cbf2 := Joins.cell_of_block bf 2
  have cbf3 := Joins.cell_of_block bf 3
  have cbf4 := Joins.cell_of_block bf 4
  go_wp2_with fail
  refine (X3.out w4 _ hk hl hlo).mono ?_
  rintro e w5 ⟨rfl, hF⟩
  clear cbf0 cbf1 cbf2 cbf3 cbf4
  replace bf := (hF.block _ (size_of_block bf)).trans bf
  replace hk := hk.later hF
  replace hl := hl.later hF
  replace hh := hh.later hF
  replace hlo := hlo.later hF
  replace hhi := hhi.later hF
  replace hB := below_then hB hF
  clear hF
  have cbf0 := Joins.cell_of_block bf 0
  have cbf1 := Joins.cell_of_block bf 1
  have cbf2 := Joins.cell_of_block bf 2
  have cbf3 := Joins.cell_of_block bf 3
  have cbf4 := Joins.cell_of_block bf 4
  go_wp2_with fail
  refine (X4.out w5 _ hk hl hhi).mono ?_
  rintro e w6 ⟨rfl, hF⟩
  clear cbf0 cbf1 cbf2 cbf3 cbf4
  replace bf := (hF.block _ (size_of_block bf)).trans bf
  replace hk := hk.later hF
  replace hl := hl.later hF
  replace hh := hh.later hF
  replace hlo := hlo.later hF
  replace hhi := hhi.later hF
  replace hB := below_then hB hF
  clear hF
  have cbf0 := Joins.cell_of_block bf 0
  have cbf1 := Joins.cell_of_block bf 1
  have cbf2 := Joins.cell_of_block bf 2
  have cbf3 := Joins.cell_of_block bf 3
  have cbf4 := Joins.cell_of_block bf 4
  go_wp2_with fail
  refine (X5.out w6 hk hl hh).mono ?_
  rintro e w7 ⟨rfl, hF⟩
  clear cbf0 cbf1 cbf2 cbf3 cbf4
  replace bf := (hF.block _ (size_of_block bf)).trans bf
  replace hk := hk.later hF
  replace hl := hl.later hF
  replace hh := hh.later hF
  replace hlo := hlo.later hF
  replace hhi := hhi.later hF
  replace hB := below_then hB hF
  clear hF
  go_wp2_with fail
  go_loopw [17] (fun i wr => ∃ j : Nat, j ≤ l.length ∧ i = .int .i64 j ∧ wr.heap[w.heap.size]? = some (.cells #[.int .i64 f.rise, .int .i64 f.fall, .int .i64 f.up, .int .i64 f.down, .slice A f.ls.length cap] 24) ∧ Sl lkC 5 wr wr.heap.size (.slice A f.ls.length cap) f.ls ∧ Sl sC 2 wr wr.heap.size (.slice A1 l.length cap1) l ∧ Sl nC 1 wr wr.heap.size (.slice A2 hs.length cap2) hs ∧ Sl nC 1 wr wr.heap.size (.slice Al L1.length capl) L1 ∧ Sl nC 1 wr wr.heap.size (.slice Ah L2.length caph) L2 ∧ Below w.heap.size w wr) (fun i _ => l.length - (intOf i).toNat)
  case atStart => exact ⟨0, Nat.zero_le _, rfl, bf, hk, hl, hh, hlo, hhi, hB⟩
  case round =>
    clear bf hk hl hh hlo hhi hB
    obtain ⟨j, hj, rfl, bf, hk, hl, hh, hlo, hhi, hB⟩ := hrel
    have h40 := H3.out
    by_cases hlt : j < l.length
    · obtain ⟨_, _, hEq, -, -, hat⟩ := Spts.open_ hl
      cases hEq
      obtain ⟨bp, op, p, hA, hbp, hxp, cp0, cp1⟩ := hat j hlt
      clear hat
      subst hA
      have HXP := Lib.hid hxp
      obtain ⟨hbt, hm1, hm2⟩ := HM.out j p hxp
      clear hxp
      have HM1 := Lib.hid hm1
      have HM2 := Lib.hid hm2
      clear hm1 hm2
      have HBT := Lib.hid hbt
      clear hbt
      have x6 := fun W h => Ends_c f (.slice A f.ls.length cap) p W h
      have x7 := fun W h => CheckEnds_c f (.slice A f.ls.length cap) p (bndI f f.ls p) W h
      rw [HBT.out.ends, HBT.out.bnd] at x6
      rw [HBT.out.chk] at x7
      unfold bndI bndV at x6 x7
      dsimp only at x6 x7
      have hdl := HBT.out.lohi
      have X6 := Lib.hid x6
      have X7 := Lib.hid x7
      clear x6 x7
      have d6 : decide (endLo f f.ls p > endHi f f.ls p) = false := decide_eq_false (by omega)
      clear hdl
      have cf0 := Joins.cell_of_block bf 0
      go_wp2_with fail
      refine wp_region_looseM [] [0, 1, 2, 3, 4] (.one 5 .done) [9] [6, 7, 8] [10, 11] [some 18] [.cells #[.int .i64 0, .int .i64 0, .int .i64 0, .int .i64 0] 38] (by kernel_rfl) (by kernel_rfl) (by intro c a d v w h; cases d <;> exact h) (by intro c a d v w h; cases d <;> exact h) rfl (by intro r i hri; match r, hri with | 0, hri => cases hri; exact ⟨_, _, rfl, rfl, rfl, rfl, fun a u => by simp [execOp, go_sem, ptrV]⟩) ?_
      simp only [pick, List.filterMap_cons, List.filterMap_nil, List.getElem?_toArray, List.getElem?_cons_succ, List.getElem?_cons_zero]
      intro u hu
      clear cf0
      have tf := (hu.block _ (size_of_block bf)).trans bf
      have ztf := size_of_block tf
      have c0 := Joins.cell_of_block tf 0
      have c1 := Joins.cell_of_block tf 1
      have c2 := Joins.cell_of_block tf 2
      have c3 := Joins.cell_of_block tf 3
      have c4 := Joins.cell_of_block tf 4
      have e0 := (hu.cell (p := ⟨bp, op + j * 2, none⟩) hbp).trans cp0
      have e1 := (hu.cell (p := ⟨bp, op + j * 2 + 1, none⟩) hbp).trans cp1
      have hzu : bp < u.heap.size := Nat.lt_of_lt_of_le hbp hu.size
      clear cp0 cp1
      have hcg : ∀ (g : Gr u) b o, b < u.heap.size → g.val.cell? ⟨b, o, none⟩ = u.cell? ⟨b, o, none⟩ := fun g b o h => (bcell g.b).1 b o h
      iterate 5 (refine wpRel_step (fun K hK => ?_); go_simp; refine hK _ ?_; clear hK K)
      refine wpRel_nil fun V0 hb0 => ?_
      clear hcg tf ztf c0 c1 c2 c3 c4 e0 e1 hzu
      have D0 := below_then hu hb0
      clear hb0 hu
      refine wpTr_step rfl rfl fun K hK => ?_
      go_simp
      refine (X6.out V0 (hk.later D0)).mono ?_
      rintro e X ⟨rfl, hx9⟩
      refine hK _ _ hx9 fun V2 hu2 => ?_
      clear hK K
      have D2 := below_then D0 (below_then hx9 hu2)
      clear hx9 hu2 D0
      show wpPure _ _ _ _
      refine wpPure_step (.tuple #[.agg #[.int .i64 (endLo f f.ls p), .int .i64 (endHi f f.ls p), .int .i64 (lowId f f.ls p), .int .i64 (highId f f.ls p)], .int .i64 0]) rfl (fun u => rfl) ?_
      refine wpPure_step (.agg #[.int .i64 (endLo f f.ls p), .int .i64 (endHi f f.ls p), .int .i64 (lowId f f.ls p), .int .i64 (highId f f.ls p)]) rfl (fun u => rfl) ?_
      refine wpPure_step (.int .i64 0) rfl (fun u => rfl) ?_
      intro ks hks hall hH
      obtain ⟨k1, rfl⟩ : ∃ k1, ks = [some k1] := by
        match ks, hks with
        | [none], _ => exact absurd rfl (hall 0)
        | [some k1], _ => exact ⟨k1, rfl⟩
      obtain ⟨o1, ge1, lt1⟩ := hH.obj 0 k1 rfl
      rw [show ([Obj.cells #[.int .i64 0, .int .i64 0, .int .i64 0, .int .i64 0] 38])[0]? = some (.cells #[.int .i64 0, .int .i64 0, .int .i64 0, .int .i64 0] 38) from rfl] at o1
      clear hH hall hks
      show wpList _ _ _ _ _ _
      simp only [deco, ptrV]
      refine wpList_store_rowTo rfl 38 _ _ rfl rfl k1 #[.int .i64 (endLo f f.ls p), .int .i64 (endHi f f.ls p), .int .i64 (lowId f f.ls p), .int .i64 (highId f f.ls p)] rfl rfl 38 _ o1 (by kernel_rfl) rfl (by kernel_rfl) ?_
      have bl := setRow_heap V2 k1 _ #[.int .i64 (endLo f f.ls p), .int .i64 (endHi f f.ls p), .int .i64 (lowId f f.ls p), .int .i64 (highId f f.ls p)] _ _ o1
      have HB := below_setRow D2 ge1 #[.int .i64 (endLo f f.ls p), .int .i64 (endHi f f.ls p), .int .i64 (lowId f f.ls p), .int .i64 (highId f f.ls p)]
      clear o1 ge1 lt1 D2
      generalize V2.setRow k1 #[.int .i64 (endLo f f.ls p), .int .i64 (endHi f f.ls p), .int .i64 (lowId f f.ls p), .int .i64 (highId f f.ls p)] = wL at bl HB ⊢
      replace bf := (HB.block _ (size_of_block bf)).trans bf
      replace hk := hk.later HB
      replace hl := hl.later HB
      replace hh := hh.later HB
      replace hlo := hlo.later HB
      replace hhi := hhi.later HB
      replace hB := below_then hB HB
      clear HB
      obtain ⟨_, _, hEq, -, -, hat⟩ := Spts.open_ hl
      cases hEq
      obtain ⟨bp9, op9, p9, hA, hbp9, hxp9, cp90, cp91⟩ := hat j hlt
      clear hat
      cases hA
      obtain rfl : p9 = p := by have := HXP.out; rw [hxp9] at this; exact Option.some.inj this
      clear hxp9
      obtain ⟨_, _, hEq, -, -, hat⟩ := Ints.open_ hlo
      cases hEq
      obtain ⟨blo, olo, lo, hA, hblo, hxlo, clo⟩ := hat j (by have := HL1.out; omega)
      clear hat
      subst hA
      obtain rfl : lo = endLo f f.ls p9 := by have := HM1.out; rw [hxlo] at this; exact Option.some.inj this
      clear hxlo
      obtain ⟨_, _, hEq, -, -, hat⟩ := Ints.open_ hhi
      cases hEq
      obtain ⟨bhi, ohi, hi, hA, hbhi, hxhi, chi⟩ := hat j (by have := HL2.out; omega)
      clear hat
      subst hA
      obtain rfl : hi = endHi f f.ls p9 := by have := HM2.out; rw [hxhi] at this; exact Option.some.inj this
      clear hxhi
      have q0 := Joins.cell_of_block bf 0
      have q1 := Joins.cell_of_block bf 1
      have q2 := Joins.cell_of_block bf 2
      have q3 := Joins.cell_of_block bf 3
      have q4 := Joins.cell_of_block bf 4
      have r0 := Joins.cell_of_block bl 0
      have r1 := Joins.cell_of_block bl 1
      have r2 := Joins.cell_of_block bl 2
      have r3 := Joins.cell_of_block bl 3
      have zbf := size_of_block bf
      have zbl := size_of_block bl
      have hjl1 : j < L1.length := by have := HL1.out; omega
      have hjl2 : j < L2.length := by have := HL2.out; omega
      have x7 := X7.out
      go_wp2_with fail
      refine wp_region_grown (by kernel_rfl) (by kernel_rfl) fun hcg => ?_
      repeat (go_big_quiet_step ((go_at_call 16; exact Calls.grown (x7 _ (hk.later (Gr.b _))))))
      refine wpQuiet_nil ?_
      intro _ hw'
      obtain ⟨g, hw''⟩ := hw'
      subst hw''
      have gb := g.b
      generalize g.val = wM at gb ⊢
      clear hcg q0 q1 q2 q3 q4 r0 r1 r2 r3 zbf zbl x7 g clo chi cp90 cp91 bl
      replace bf := (gb.block _ (size_of_block bf)).trans bf
      replace hk := hk.later gb
      replace hl := hl.later gb
      replace hh := hh.later gb
      replace hlo := hlo.later gb
      replace hhi := hhi.later gb
      replace hB := below_then hB gb
      clear gb hbp hbp9 hblo hbhi
      go_wp2_with fail
      refine wp_region_grown (by kernel_rfl) (by kernel_rfl) fun hcg => ?_
      repeat (go_big_quiet_step (fail))
      refine wpQuiet_nil ?_
      intro _ hw'
      obtain ⟨g, hw''⟩ := hw'
      subst hw''
      have gb := g.b
      generalize g.val = wN at gb ⊢
      clear hcg g
      replace bf := (gb.block _ (size_of_block bf)).trans bf
      replace hk := hk.later gb
      replace hl := hl.later gb
      replace hh := hh.later gb
      replace hlo := hlo.later gb
      replace hhi := hhi.later gb
      replace hB := below_then hB gb
      clear gb
      clear d6
      obtain ⟨wo, rfl⟩ : ∃ wo : World, wo = wr := ⟨_, rfl⟩
      go_wp2_with fail
      go_loopw [20] (fun i wr => ∃ m : Nat, m ≤ l.length ∧ i = .int .i64 m ∧ wr.heap[w.heap.size]? = some (.cells #[.int .i64 f.rise, .int .i64 f.fall, .int .i64 f.up, .int .i64 f.down, .slice A f.ls.length cap] 24) ∧ Sl lkC 5 wr wr.heap.size (.slice A f.ls.length cap) f.ls ∧ Sl sC 2 wr wr.heap.size (.slice (some ⟨bp, op, none⟩) l.length cap1) l ∧ Sl nC 1 wr wr.heap.size (.slice A2 hs.length cap2) hs ∧ Sl nC 1 wr wr.heap.size (.slice (some ⟨blo, olo, none⟩) L1.length capl) L1 ∧ Sl nC 1 wr wr.heap.size (.slice (some ⟨bhi, ohi, none⟩) L2.length caph) L2 ∧ Below w.heap.size w wr) (fun i _ => l.length - (intOf i).toNat)
      case atStart => exact ⟨0, Nat.zero_le _, rfl, bf, hk, hl, hh, hlo, hhi, hB⟩
      case round =>
        clear bf hk hl hh hlo hhi hB
        obtain ⟨m, hm, rfl, bf, hk, hl, hh, hlo, hhi, hB⟩ := hrel
        by_cases hlm : m < l.length
        · obtain ⟨_, _, hEq, -, -, hat⟩ := Spts.open_ hl
          cases hEq
          obtain ⟨bq, oq, q, hA, hbq, hxq, cq0, cq1⟩ := hat m hlm
          clear hat
          cases hA
          have HXQ := Lib.hid hxq
          obtain ⟨hbt2, hm1, hm2⟩ := HM.out m q hxq
          obtain ⟨f1, f2, f3, f4, f5⟩ := HR.out p9 q (List.mem_of_getElem? HXP.out) (List.mem_of_getElem? hxq)
          clear hxq
          have HM1q := Lib.hid hm1
          have HM2q := Lib.hid hm2
          have y1 := hbt2.lo
          have y2 := hbt2.hi
          clear hm1 hm2 hbt2
          have x8 := fun W h => Far_c f (.slice A f.ls.length cap) q p9 W h
          rw [f1, f2] at x8
          clear f1 f2
          generalize farI f q p9 = dd at x8 f3 f4 f5
          unfold sV at x8
          obtain ⟨_, _, hEq, -, -, hat⟩ := Spts.open_ hl
          cases hEq
          obtain ⟨bp8, op8, p8, hA, hbp8, hxp8, cp80, cp81⟩ := hat j hlt
          clear hat
          cases hA
          obtain rfl : p8 = p9 := by have := HXP.out; rw [hxp8] at this; exact Option.some.inj this
          clear hxp8
          have q0 := Joins.cell_of_block bf 0
          have q1 := Joins.cell_of_block bf 1
          have q2 := Joins.cell_of_block bf 2
          have q3 := Joins.cell_of_block bf 3
          have q4 := Joins.cell_of_block bf 4
          have zbf := size_of_block bf
          go_wp2_with fail
          refine wp_region_grown (by kernel_rfl) (by kernel_rfl) fun hcg => ?_
          repeat (go_big_quiet_step ((go_at_call 17; exact Calls.grown (x8 _ (hk.later (Gr.b _))))))
          refine wpQuiet_nil ?_
          intro _ hw'
          obtain ⟨g, hw''⟩ := hw'
          subst hw''
          have gb := g.b
          generalize g.val = wM at gb ⊢
          clear hcg q0 q1 q2 q3 q4 zbf x8 g cq0 cq1 cp80 cp81
          replace bf := (gb.block _ (size_of_block bf)).trans bf
          replace hk := hk.later gb
          replace hl := hl.later gb
          replace hh := hh.later gb
          replace hlo := hlo.later gb
          replace hhi := hhi.later gb
          replace hB := below_then hB gb
          clear gb
          obtain ⟨_, _, hEq, -, -, hat⟩ := Ints.open_ hlo
          cases hEq
          obtain ⟨blo6, olo6, lo6, hA, hblo6, hxlo6, clo6⟩ := hat j (by have := HL1.out; omega)
          clear hat
          cases hA
          obtain rfl : lo6 = endLo f f.ls p8 := by have := HM1.out; rw [hxlo6] at this; exact Option.some.inj this
          clear hxlo6
          obtain ⟨_, _, hEq, -, -, hat⟩ := Ints.open_ hhi
          cases hEq
          obtain ⟨bhi6, ohi6, hi6, hA, hbhi6, hxhi6, chi6⟩ := hat j (by have := HL2.out; omega)
          clear hat
          cases hA
          obtain rfl : hi6 = endHi f f.ls p8 := by have := HM2.out; rw [hxhi6] at this; exact Option.some.inj this
          clear hxhi6
          obtain ⟨_, _, hEq, -, -, hat⟩ := Ints.open_ hlo
          cases hEq
          obtain ⟨bloq, oloq, loq, hA, hbloq, hxloq, cloq⟩ := hat m (by have := HL1.out; omega)
          clear hat
          cases hA
          obtain rfl : loq = endLo f f.ls q := by have := HM1q.out; rw [hxloq] at this; exact Option.some.inj this
          clear hxloq
          obtain ⟨_, _, hEq, -, -, hat⟩ := Ints.open_ hhi
          cases hEq
          obtain ⟨bhiq, ohiq, hiq, hA, hbhiq, hxhiq, chiq⟩ := hat m (by have := HL2.out; omega)
          clear hat
          cases hA
          obtain rfl : hiq = endHi f f.ls q := by have := HM2q.out; rw [hxhiq] at this; exact Option.some.inj this
          clear hxhiq
          have w1 : IntKind.i64.wrap (endLo f f.ls q + dd) = endLo f f.ls q + dd := by rw [IntKind.wrap_i64]; omega
          have w2 : IntKind.i64.wrap (endHi f f.ls q + dd) = endHi f f.ls q + dd := by rw [IntKind.wrap_i64]; omega
          have d7 : decide (endLo f f.ls p8 > endLo f f.ls q + dd) = false := decide_eq_false (by omega)
          have d8 : decide (endHi f f.ls p8 > endHi f f.ls q + dd) = false := decide_eq_false (by omega)
          have hjl1 : j < L1.length := by have := HL1.out; omega
          have hjl2 : j < L2.length := by have := HL2.out; omega
          have hml1 : m < L1.length := by have := HL1.out; omega
          have hml2 : m < L2.length := by have := HL2.out; omega
          clear f3 f4 f5 y1 y2
          go_wp2_with fail
          refine wp_region_grown (by kernel_rfl) (by kernel_rfl) fun hcg => ?_
          repeat (go_big_quiet_step (fail))
          refine wpQuiet_nil ?_
          intro _ hw'
          obtain ⟨g, hw''⟩ := hw'
          subst hw''
          have gb := g.b
          generalize g.val = wN at gb ⊢
          clear hcg g clo6 chi6 cloq chiq
          replace bf := (gb.block _ (size_of_block bf)).trans bf
          replace hk := hk.later gb
          replace hl := hl.later gb
          replace hh := hh.later gb
          replace hlo := hlo.later gb
          replace hhi := hhi.later gb
          replace hB := below_then hB gb
          clear gb
          go_wp2_with fail
          go_roundw
          case rel => exact ⟨m + 1, by omega, by go_num, bf, hk, hl, hh, hlo, hhi, hB⟩
          case measure => simp [intOf]; omega
        · obtain rfl : m = l.length := by omega
          go_wp2_with fail
          go_roundw
          case rel => exact ⟨j + 1, by omega, by go_num, bf, hk, hl, hh, hlo, hhi, hB⟩
          case measure => simp [intOf]; omega
    · obtain rfl : j = l.length := by omega
      clear hk hl hh hlo hhi
      go_wp2_with fail
      refine (sanity_c wr).mono ?_
      rintro e w51 ⟨rfl, hF⟩
      replace bf := (hF.block _ (size_of_block bf)).trans bf
      replace hB := below_then hB hF
      clear hF
      go_wp2_with fail
      go_ret
      exact ⟨rfl, hB⟩
set_option maxRecDepth 100000 in
set_option maxHeartbeats 8000000 in
theorem FireBetween_c (f : Fi) (A A1 A2 : Option Addr) (cap cap1 cap2 : Nat) (l : List Spt) (hs : List Int) (w : World) (hk : Lks w w.heap.size (.slice A f.ls.length cap) f.ls) (hl : Spts w w.heap.size (.slice A1 l.length cap1) l) (hh : Ints w w.heap.size (.slice A2 hs.length cap2) hs) (hfew : fewB f.ls.length = true) (h1 : fewB l.length = true) (h2 : hs.length ≤ 40) (hE : listE f l = 0) (hJ : fitsE f l hs = 0) (hF : fitsR f l hs = false) : Calls Try.prog 3 #[fiV f (.slice A f.ls.length cap), (.slice A1 l.length cap1), (.slice A2 hs.length cap2)] w fun e w' => e = .returned (.bool true) ∧ Below w.heap.size w w' := by
  have x1 := fun W h hl => Coolest_c f (.slice A f.ls.length cap) (.slice A1 l.length cap1) l W h hl
  have x2 := fun W h hl => Hottest_c f (.slice A f.ls.length cap) (.slice A1 l.length cap1) l W h hl
  have x3 := fun W v h hl hh => Fits_c f (.slice A f.ls.length cap) (.slice A1 l.length cap1) v l (l.map (endLo f f.ls)) W h hl hh
  have x4 := fun W v h hl hh => Fits_c f (.slice A f.ls.length cap) (.slice A1 l.length cap1) v l (l.map (endHi f f.ls)) W h hl hh
  have x5 := fun W h hl hh => Fits_c f (.slice A f.ls.length cap) (.slice A1 l.length cap1) (.slice A2 hs.length cap2) l hs W h hl hh
  obtain ⟨m1, m2⟩ := btw_low hE
  rw [m1, m2] at x3
  clear m1 m2
  obtain ⟨m1, m2⟩ := btw_high hE
  rw [m1, m2] at x4
  clear m1 m2
  have hc : coolR f l = l.map (endLo f f.ls) := by unfold coolR; rw [if_pos hE]
  have hh2 : hotR f l = l.map (endHi f f.ls) := by unfold hotR; rw [if_pos hE]
  rw [hE, hc] at x1
  rw [hE, hh2] at x2
  clear hc hh2
  rw [hJ, hF] at x5
  have HM : Hid (∀ (j : Nat) (p : Spt), l[j]? = some p → BtwP f p ∧ (l.map (endLo f f.ls))[j]? = some (endLo f f.ls p) ∧ (l.map (endHi f f.ls))[j]? = some (endHi f f.ls p)) := fun j p hp => ⟨btw_at hE (List.mem_of_getElem? hp), by rw [List.getElem?_map, hp]; rfl, by rw [List.getElem?_map, hp]; rfl⟩
  have HR : Hid (∀ (p q : Spt), p ∈ l → q ∈ l → farE f q p = 0 ∧ farR f q p = farI f q p ∧ (0 ≤ farI f q p ∧ farI f q p ≤ 10000000) ∧ endLo f f.ls p ≤ endLo f f.ls q + farI f q p ∧ endHi f f.ls p ≤ endHi f f.ls q + farI f q p) := fun p q hp hq => btw_far hE hp hq
  clear hJ hF
  have e1 : (l.map (endLo f f.ls)).length = l.length := List.length_map ..
  have e2 : (l.map (endHi f f.ls)).length = l.length := List.length_map ..
  generalize l.map (endLo f f.ls) = L1 at x1 x3 HM e1
  generalize l.map (endHi f f.ls) = L2 at x2 x4 HM e2
  have d4 : ((L1.length : Int) != (l.length : Int)) = false := by rw [bne_eq_false_iff_eq]; omega
  have d5 : ((L2.length : Int) != (l.length : Int)) = false := by rw [bne_eq_false_iff_eq]; omega
  have HL1 := Lib.hid e1
  have HL2 := Lib.hid e2
  clear e1 e2 hE
  have H3 : Hid (l.length ≤ 40) := few_len h1
  have X1 := Lib.hid x1
  have X2 := Lib.hid x2
  have X3 := Lib.hid x3
  have X4 := Lib.hid x4
  have X5 := Lib.hid x5
  clear x1 x2 x3 x4 x5
  have HK := Lib.hid hk
  have HL := Lib.hid hl
  have HH := Lib.hid hh
  clear hk hl hh
  have d2 : decide ((hs.length : Int) > 40) = false := decide_eq_false (by omega)
  have H2 := Lib.hid h2
  clear h2
  unfold fiV
  go_enter Try.func3, Try.ntmps3
  have bf := heap_alloc_new w (.cells #[.int .i64 f.rise, .int .i64 f.fall, .int .i64 f.up, .int .i64 f.down, .slice A f.ls.length cap] 24)
  have HB := below_alloc w (.cells #[.int .i64 f.rise, .int .i64 f.fall, .int .i64 f.up, .int .i64 f.down, .slice A f.ls.length cap] 24)
  go_wp2_with fail
  generalize (w.alloc (.cells #[.int .i64 f.rise, .int .i64 f.fall, .int .i64 f.up, .int .i64 f.down, .slice A f.ls.length cap] 24)) = w1 at bf HB  ⊢
  have hB := HB
  clear HB
  have hk := HK.out.later hB
  have hl := HL.out.later hB
  have hh := HH.out.later hB
  refine (few_c f A f.ls.length cap _).mono ?_
  rintro e w2 ⟨rfl, hF⟩
  replace bf := (hF.block _ (size_of_block bf)).trans bf
  replace hk := hk.later hF
  replace hl := hl.later hF
  replace hh := hh.later hF
  replace hB := below_then hB hF
  clear hF
  rw [hfew]
  go_wp2_with fail
  refine (short_c A1 l.length cap1 _).mono ?_
  rintro e w' ⟨rfl, rfl⟩
  rw [h1]
  have cbf0 := Joins.cell_of_block bf 0
  have cbf1 := Joins.cell_of_block bf 1
  have cbf2 := Joins.cell_of_block bf 2
  have cbf3 := Joins.cell_of_block bf 3
  have cbf4 := Joins.cell_of_block bf 4
  go_wp2_with fail
  refine (X1.out w2 hk hl).mono ?_
  rintro e w3 ⟨s1, rfl, hs1, hF⟩
  clear cbf0 cbf1 cbf2 cbf3 cbf4
  replace bf := (hF.block _ (size_of_block bf)).trans bf
  replace hk := hk.later hF
  replace hl := hl.later hF
  replace hh := hh.later hF
  replace hB := below_then hB hF
  clear hF
  have cbf0 := Joins.cell_of_block bf 0
  have cbf1 := Joins.cell_of_block bf 1
  have cbf2 := Joins.cell_of_block bf 2
  have cbf3 := Joins.cell_of_block bf 3
  have cbf4 := Joins.cell_of_block bf 4
  go_wp2_with fail
  refine (X2.out w3 hk hl).mono ?_
  rintro e w4 ⟨s2, rfl, hs2, hF⟩
  clear cbf0 cbf1 cbf2 cbf3 cbf4
  replace bf := (hF.block _ (size_of_block bf)).trans bf
  replace hk := hk.later hF
  replace hl := hl.later hF
  replace hh := hh.later hF
  replace hs1 := own_below hs1 hF
  replace hB := below_then hB hF
  clear hF
  have hlo := Ints.of_own hs1 (by have := H3.out; have := HL1.out; omega)
  have hhi := Ints.of_own hs2 (by have := H3.out; have := HL2.out; omega)
  clear hs1 hs2
  obtain ⟨Al, capl, rfl, -, -⟩ := hlo.open_
  obtain ⟨Ah, caph, rfl, -, -⟩ := hhi.open_
  have cbf0 := Joins.cell_of_block bf 0
  have cbf1 := Joins.cell_of_block bf 1
  have cbf2 := Joins.cell_of_block bf 2
  have cbf3 := Joins.cell_of_block bf 3
  have cbf4 := Joins.cell_of_block bf 4
  go_wp2_with fail
  refine (X3.out w4 _ hk hl hlo).mono ?_
  rintro e w5 ⟨rfl, hF⟩
  clear cbf0 cbf1 cbf2 cbf3 cbf4
  replace bf := (hF.block _ (size_of_block bf)).trans bf
  replace hk := hk.later hF
  replace hl := hl.later hF
  replace hh := hh.later hF
  replace hlo := hlo.later hF
  replace hhi := hhi.later hF
  replace hB := below_then hB hF
  clear hF
  have cbf0 := Joins.cell_of_block bf 0
  have cbf1 := Joins.cell_of_block bf 1
  have cbf2 := Joins.cell_of_block bf 2
  have cbf3 := Joins.cell_of_block bf 3
  have cbf4 := Joins.cell_of_block bf 4
  go_wp2_with fail
  refine (X4.out w5 _ hk hl hhi).mono ?_
  rintro e w6 ⟨rfl, hF⟩
  clear cbf0 cbf1 cbf2 cbf3 cbf4
  replace bf := (hF.block _ (size_of_block bf)).trans bf
  replace hk := hk.later hF
  replace hl := hl.later hF
  replace hh := hh.later hF
  replace hlo := hlo.later hF
  replace hhi := hhi.later hF
  replace hB := below_then hB hF
  clear hF
  have cbf0 := Joins.cell_of_block bf 0
  have cbf1 := Joins.cell_of_block bf 1
  have cbf2 := Joins.cell_of_block bf 2
  have cbf3 := Joins.cell_of_block bf 3
  have cbf4 := Joins.cell_of_block bf 4
  go_wp2_with fail
  refine (X5.out w6 hk hl hh).mono ?_
  rintro e w7 ⟨rfl, hF⟩
  clear cbf0 cbf1 cbf2 cbf3 cbf4
  replace bf := (hF.block _ (size_of_block bf)).trans bf
  replace hk := hk.later hF
  replace hl := hl.later hF
  replace hh := hh.later hF
  replace hlo := hlo.later hF
  replace hhi := hhi.later hF
  replace hB := below_then hB hF
  clear hF
  go_wp2_with fail
  go_loopw [17] (fun i wr => ∃ j : Nat, j ≤ l.length ∧ i = .int .i64 j ∧ wr.heap[w.heap.size]? = some (.cells #[.int .i64 f.rise, .int .i64 f.fall, .int .i64 f.up, .int .i64 f.down, .slice A f.ls.length cap] 24) ∧ Sl lkC 5 wr wr.heap.size (.slice A f.ls.length cap) f.ls ∧ Sl sC 2 wr wr.heap.size (.slice A1 l.length cap1) l ∧ Sl nC 1 wr wr.heap.size (.slice A2 hs.length cap2) hs ∧ Sl nC 1 wr wr.heap.size (.slice Al L1.length capl) L1 ∧ Sl nC 1 wr wr.heap.size (.slice Ah L2.length caph) L2 ∧ Below w.heap.size w wr) (fun i _ => l.length - (intOf i).toNat)
  case atStart => exact ⟨0, Nat.zero_le _, rfl, bf, hk, hl, hh, hlo, hhi, hB⟩
  case round =>
    clear bf hk hl hh hlo hhi hB
    obtain ⟨j, hj, rfl, bf, hk, hl, hh, hlo, hhi, hB⟩ := hrel
    have h40 := H3.out
    by_cases hlt : j < l.length
    · obtain ⟨_, _, hEq, -, -, hat⟩ := Spts.open_ hl
      cases hEq
      obtain ⟨bp, op, p, hA, hbp, hxp, cp0, cp1⟩ := hat j hlt
      clear hat
      subst hA
      have HXP := Lib.hid hxp
      obtain ⟨hbt, hm1, hm2⟩ := HM.out j p hxp
      clear hxp
      have HM1 := Lib.hid hm1
      have HM2 := Lib.hid hm2
      clear hm1 hm2
      have HBT := Lib.hid hbt
      clear hbt
      have x6 := fun W h => Ends_c f (.slice A f.ls.length cap) p W h
      have x7 := fun W h => CheckEnds_c f (.slice A f.ls.length cap) p (bndI f f.ls p) W h
      rw [HBT.out.ends, HBT.out.bnd] at x6
      rw [HBT.out.chk] at x7
      unfold bndI bndV at x6 x7
      dsimp only at x6 x7
      have hdl := HBT.out.lohi
      have X6 := Lib.hid x6
      have X7 := Lib.hid x7
      clear x6 x7
      have d6 : decide (endLo f f.ls p > endHi f f.ls p) = false := decide_eq_false (by omega)
      clear hdl
      have cf0 := Joins.cell_of_block bf 0
      go_wp2_with fail
      refine wp_region_looseM [] [0, 1, 2, 3, 4] (.one 5 .done) [9] [6, 7, 8] [10, 11] [some 18] [.cells #[.int .i64 0, .int .i64 0, .int .i64 0, .int .i64 0] 38] (by kernel_rfl) (by kernel_rfl) (by intro c a d v w h; cases d <;> exact h) (by intro c a d v w h; cases d <;> exact h) rfl (by intro r i hri; match r, hri with | 0, hri => cases hri; exact ⟨_, _, rfl, rfl, rfl, rfl, fun a u => by simp [execOp, go_sem, ptrV]⟩) ?_
      simp only [pick, List.filterMap_cons, List.filterMap_nil, List.getElem?_toArray, List.getElem?_cons_succ, List.getElem?_cons_zero]
      intro u hu
      clear cf0
      have tf := (hu.block _ (size_of_block bf)).trans bf
      have ztf := size_of_block tf
      have c0 := Joins.cell_of_block tf 0
      have c1 := Joins.cell_of_block tf 1
      have c2 := Joins.cell_of_block tf 2
      have c3 := Joins.cell_of_block tf 3
      have c4 := Joins.cell_of_block tf 4
      have e0 := (hu.cell (p := ⟨bp, op + j * 2, none⟩) hbp).trans cp0
      have e1 := (hu.cell (p := ⟨bp, op + j * 2 + 1, none⟩) hbp).trans cp1
      have hzu : bp < u.heap.size := Nat.lt_of_lt_of_le hbp hu.size
      clear cp0 cp1
      have hcg : ∀ (g : Gr u) b o, b < u.heap.size → g.val.cell? ⟨b, o, none⟩ = u.cell? ⟨b, o, none⟩ := fun g b o h => (bcell g.b).1 b o h
      iterate 5 (refine wpRel_step (fun K hK => ?_); go_simp; refine hK _ ?_; clear hK K)
      refine wpRel_nil fun V0 hb0 => ?_
      clear hcg tf ztf c0 c1 c2 c3 c4 e0 e1 hzu
      have D0 := below_then hu hb0
      clear hb0 hu
      refine wpTr_step rfl rfl fun K hK => ?_
      go_simp
      refine (X6.out V0 (hk.later D0)).mono ?_
      rintro e X ⟨rfl, hx9⟩
      refine hK _ _ hx9 fun V2 hu2 => ?_
      clear hK K
      have D2 := below_then D0 (below_then hx9 hu2)
      clear hx9 hu2 D0
      show wpPure _ _ _ _
      refine wpPure_step (.tuple #[.agg #[.int .i64 (endLo f f.ls p), .int .i64 (endHi f f.ls p), .int .i64 (lowId f f.ls p), .int .i64 (highId f f.ls p)], .int .i64 0]) rfl (fun u => rfl) ?_
      refine wpPure_step (.agg #[.int .i64 (endLo f f.ls p), .int .i64 (endHi f f.ls p), .int .i64 (lowId f f.ls p), .int .i64 (highId f f.ls p)]) rfl (fun u => rfl) ?_
      refine wpPure_step (.int .i64 0) rfl (fun u => rfl) ?_
      intro ks hks hall hH
      obtain ⟨k1, rfl⟩ : ∃ k1, ks = [some k1] := by
        match ks, hks with
        | [none], _ => exact absurd rfl (hall 0)
        | [some k1], _ => exact ⟨k1, rfl⟩
      obtain ⟨o1, ge1, lt1⟩ := hH.obj 0 k1 rfl
      rw [show ([Obj.cells #[.int .i64 0, .int .i64 0, .int .i64 0, .int .i64 0] 38])[0]? = some (.cells #[.int .i64 0, .int .i64 0, .int .i64 0, .int .i64 0] 38) from rfl] at o1
      clear hH hall hks
      show wpList _ _ _ _ _ _
      simp only [deco, ptrV]
      refine wpList_store_rowTo rfl 38 _ _ rfl rfl k1 #[.int .i64 (endLo f f.ls p), .int .i64 (endHi f f.ls p), .int .i64 (lowId f f.ls p), .int .i64 (highId f f.ls p)] rfl rfl 38 _ o1 (by kernel_rfl) rfl (by kernel_rfl) ?_
      have bl := setRow_heap V2 k1 _ #[.int .i64 (endLo f f.ls p), .int .i64 (endHi f f.ls p), .int .i64 (lowId f f.ls p), .int .i64 (highId f f.ls p)] _ _ o1
      have HB := below_setRow D2 ge1 #[.int .i64 (endLo f f.ls p), .int .i64 (endHi f f.ls p), .int .i64 (lowId f f.ls p), .int .i64 (highId f f.ls p)]
      clear o1 ge1 lt1 D2
      generalize V2.setRow k1 #[.int .i64 (endLo f f.ls p), .int .i64 (endHi f f.ls p), .int .i64 (lowId f f.ls p), .int .i64 (highId f f.ls p)] = wL at bl HB ⊢
      replace bf := (HB.block _ (size_of_block bf)).trans bf
      replace hk := hk.later HB
      replace hl := hl.later HB
      replace hh := hh.later HB
      replace hlo := hlo.later HB
      replace hhi := hhi.later HB
      replace hB := below_then hB HB
      clear HB
      obtain ⟨_, _, hEq, -, -, hat⟩ := Spts.open_ hl
      cases hEq
      obtain ⟨bp9, op9, p9, hA, hbp9, hxp9, cp90, cp91⟩ := hat j hlt
      clear hat
      cases hA
      obtain rfl : p9 = p := by have := HXP.out; rw [hxp9] at this; exact Option.some.inj this
      clear hxp9
      obtain ⟨_, _, hEq, -, -, hat⟩ := Ints.open_ hlo
      cases hEq
      obtain ⟨blo, olo, lo, hA, hblo, hxlo, clo⟩ := hat j (by have := HL1.out; omega)
      clear hat
      subst hA
      obtain rfl : lo = endLo f f.ls p9 := by have := HM1.out; rw [hxlo] at this; exact Option.some.inj this
      clear hxlo
      obtain ⟨_, _, hEq, -, -, hat⟩ := Ints.open_ hhi
      cases hEq
      obtain ⟨bhi, ohi, hi, hA, hbhi, hxhi, chi⟩ := hat j (by have := HL2.out; omega)
      clear hat
      subst hA
      obtain rfl : hi = endHi f f.ls p9 := by have := HM2.out; rw [hxhi] at this; exact Option.some.inj this
      clear hxhi
      have q0 := Joins.cell_of_block bf 0
      have q1 := Joins.cell_of_block bf 1
      have q2 := Joins.cell_of_block bf 2
      have q3 := Joins.cell_of_block bf 3
      have q4 := Joins.cell_of_block bf 4
      have r0 := Joins.cell_of_block bl 0
      have r1 := Joins.cell_of_block bl 1
      have r2 := Joins.cell_of_block bl 2
      have r3 := Joins.cell_of_block bl 3
      have zbf := size_of_block bf
      have zbl := size_of_block bl
      have hjl1 : j < L1.length := by have := HL1.out; omega
      have hjl2 : j < L2.length := by have := HL2.out; omega
      have x7 := X7.out
      go_wp2_with fail
      refine wp_region_grown (by kernel_rfl) (by kernel_rfl) fun hcg => ?_
      repeat (go_big_quiet_step ((go_at_call 16; exact Calls.grown (x7 _ (hk.later (Gr.b _))))))
      refine wpQuiet_nil ?_
      intro _ hw'
      obtain ⟨g, hw''⟩ := hw'
      subst hw''
      have gb := g.b
      generalize g.val = wM at gb ⊢
      clear hcg q0 q1 q2 q3 q4 r0 r1 r2 r3 zbf zbl x7 g clo chi cp90 cp91 bl
      replace bf := (gb.block _ (size_of_block bf)).trans bf
      replace hk := hk.later gb
      replace hl := hl.later gb
      replace hh := hh.later gb
      replace hlo := hlo.later gb
      replace hhi := hhi.later gb
      replace hB := below_then hB gb
      clear gb hbp hbp9 hblo hbhi
      go_wp2_with fail
      refine wp_region_grown (by kernel_rfl) (by kernel_rfl) fun hcg => ?_
      repeat (go_big_quiet_step (fail))
      refine wpQuiet_nil ?_
      intro _ hw'
      obtain ⟨g, hw''⟩ := hw'
      subst hw''
      have gb := g.b
      generalize g.val = wN at gb ⊢
      clear hcg g
      replace bf := (gb.block _ (size_of_block bf)).trans bf
      replace hk := hk.later gb
      replace hl := hl.later gb
      replace hh := hh.later gb
      replace hlo := hlo.later gb
      replace hhi := hhi.later gb
      replace hB := below_then hB gb
      clear gb
      clear d6
      obtain ⟨wo, rfl⟩ : ∃ wo : World, wo = wr := ⟨_, rfl⟩
      go_wp2_with fail
      go_loopw [20] (fun i wr => ∃ m : Nat, m ≤ l.length ∧ i = .int .i64 m ∧ wr.heap[w.heap.size]? = some (.cells #[.int .i64 f.rise, .int .i64 f.fall, .int .i64 f.up, .int .i64 f.down, .slice A f.ls.length cap] 24) ∧ Sl lkC 5 wr wr.heap.size (.slice A f.ls.length cap) f.ls ∧ Sl sC 2 wr wr.heap.size (.slice (some ⟨bp, op, none⟩) l.length cap1) l ∧ Sl nC 1 wr wr.heap.size (.slice A2 hs.length cap2) hs ∧ Sl nC 1 wr wr.heap.size (.slice (some ⟨blo, olo, none⟩) L1.length capl) L1 ∧ Sl nC 1 wr wr.heap.size (.slice (some ⟨bhi, ohi, none⟩) L2.length caph) L2 ∧ Below w.heap.size w wr) (fun i _ => l.length - (intOf i).toNat)
      case atStart => exact ⟨0, Nat.zero_le _, rfl, bf, hk, hl, hh, hlo, hhi, hB⟩
      case round =>
        clear bf hk hl hh hlo hhi hB
        obtain ⟨m, hm, rfl, bf, hk, hl, hh, hlo, hhi, hB⟩ := hrel
        by_cases hlm : m < l.length
        · obtain ⟨_, _, hEq, -, -, hat⟩ := Spts.open_ hl
          cases hEq
          obtain ⟨bq, oq, q, hA, hbq, hxq, cq0, cq1⟩ := hat m hlm
          clear hat
          cases hA
          have HXQ := Lib.hid hxq
          obtain ⟨hbt2, hm1, hm2⟩ := HM.out m q hxq
          obtain ⟨f1, f2, f3, f4, f5⟩ := HR.out p9 q (List.mem_of_getElem? HXP.out) (List.mem_of_getElem? hxq)
          clear hxq
          have HM1q := Lib.hid hm1
          have HM2q := Lib.hid hm2
          have y1 := hbt2.lo
          have y2 := hbt2.hi
          clear hm1 hm2 hbt2
          have x8 := fun W h => Far_c f (.slice A f.ls.length cap) q p9 W h
          rw [f1, f2] at x8
          clear f1 f2
          generalize farI f q p9 = dd at x8 f3 f4 f5
          unfold sV at x8
          obtain ⟨_, _, hEq, -, -, hat⟩ := Spts.open_ hl
          cases hEq
          obtain ⟨bp8, op8, p8, hA, hbp8, hxp8, cp80, cp81⟩ := hat j hlt
          clear hat
          cases hA
          obtain rfl : p8 = p9 := by have := HXP.out; rw [hxp8] at this; exact Option.some.inj this
          clear hxp8
          have q0 := Joins.cell_of_block bf 0
          have q1 := Joins.cell_of_block bf 1
          have q2 := Joins.cell_of_block bf 2
          have q3 := Joins.cell_of_block bf 3
          have q4 := Joins.cell_of_block bf 4
          have zbf := size_of_block bf
          go_wp2_with fail
          refine wp_region_grown (by kernel_rfl) (by kernel_rfl) fun hcg => ?_
          repeat (go_big_quiet_step ((go_at_call 17; exact Calls.grown (x8 _ (hk.later (Gr.b _))))))
          refine wpQuiet_nil ?_
          intro _ hw'
          obtain ⟨g, hw''⟩ := hw'
          subst hw''
          have gb := g.b
          generalize g.val = wM at gb ⊢
          clear hcg q0 q1 q2 q3 q4 zbf x8 g cq0 cq1 cp80 cp81
          replace bf := (gb.block _ (size_of_block bf)).trans bf
          replace hk := hk.later gb
          replace hl := hl.later gb
          replace hh := hh.later gb
          replace hlo := hlo.later gb
          replace hhi := hhi.later gb
          replace hB := below_then hB gb
          clear gb
          obtain ⟨_, _, hEq, -, -, hat⟩ := Ints.open_ hlo
          cases hEq
          obtain ⟨blo6, olo6, lo6, hA, hblo6, hxlo6, clo6⟩ := hat j (by have := HL1.out; omega)
          clear hat
          cases hA
          obtain rfl : lo6 = endLo f f.ls p8 := by have := HM1.out; rw [hxlo6] at this; exact Option.some.inj this
          clear hxlo6
          obtain ⟨_, _, hEq, -, -, hat⟩ := Ints.open_ hhi
          cases hEq
          obtain ⟨bhi6, ohi6, hi6, hA, hbhi6, hxhi6, chi6⟩ := hat j (by have := HL2.out; omega)
          clear hat
          cases hA
          obtain rfl : hi6 = endHi f f.ls p8 := by have := HM2.out; rw [hxhi6] at this; exact Option.some.inj this
          clear hxhi6
          obtain ⟨_, _, hEq, -, -, hat⟩ := Ints.open_ hlo
          cases hEq
          obtain ⟨bloq, oloq, loq, hA, hbloq, hxloq, cloq⟩ := hat m (by have := HL1.out; omega)
          clear hat
          cases hA
          obtain rfl : loq = endLo f f.ls q := by have := HM1q.out; rw [hxloq] at this; exact Option.some.inj this
          clear hxloq
          obtain ⟨_, _, hEq, -, -, hat⟩ := Ints.open_ hhi
          cases hEq
          obtain ⟨bhiq, ohiq, hiq, hA, hbhiq, hxhiq, chiq⟩ := hat m (by have := HL2.out; omega)
          clear hat
          cases hA
          obtain rfl : hiq = endHi f f.ls q := by have := HM2q.out; rw [hxhiq] at this; exact Option.some.inj this
          clear hxhiq
          have w1 : IntKind.i64.wrap (endLo f f.ls q + dd) = endLo f f.ls q + dd := by rw [IntKind.wrap_i64]; omega
          have w2 : IntKind.i64.wrap (endHi f f.ls q + dd) = endHi f f.ls q + dd := by rw [IntKind.wrap_i64]; omega
          have d7 : decide (endLo f f.ls p8 > endLo f f.ls q + dd) = false := decide_eq_false (by omega)
          have d8 : decide (endHi f f.ls p8 > endHi f f.ls q + dd) = false := decide_eq_false (by omega)
          have hjl1 : j < L1.length := by have := HL1.out; omega
          have hjl2 : j < L2.length := by have := HL2.out; omega
          have hml1 : m < L1.length := by have := HL1.out; omega
          have hml2 : m < L2.length := by have := HL2.out; omega
          clear f3 f4 f5 y1 y2
          go_wp2_with fail
          refine wp_region_grown (by kernel_rfl) (by kernel_rfl) fun hcg => ?_
          repeat (go_big_quiet_step (fail))
          refine wpQuiet_nil ?_
          intro _ hw'
          obtain ⟨g, hw''⟩ := hw'
          subst hw''
          have gb := g.b
          generalize g.val = wN at gb ⊢
          clear hcg g clo6 chi6 cloq chiq
          replace bf := (gb.block _ (size_of_block bf)).trans bf
          replace hk := hk.later gb
          replace hl := hl.later gb
          replace hh := hh.later gb
          replace hlo := hlo.later gb
          replace hhi := hhi.later gb
          replace hB := below_then hB gb
          clear gb
          go_wp2_with fail
          go_roundw
          case rel => exact ⟨m + 1, by omega, by go_num, bf, hk, hl, hh, hlo, hhi, hB⟩
          case measure => simp [intOf]; omega
        · obtain rfl : m = l.length := by omega
          go_wp2_with fail
          go_roundw
          case rel => exact ⟨j + 1, by omega, by go_num, bf, hk, hl, hh, hlo, hhi, hB⟩
          case measure => simp [intOf]; omega
    · obtain rfl : j = l.length := by omega
      clear hk hl hh hlo hhi
      go_wp2_with fail
      refine (sanity_c wr).mono ?_
      rintro e w51 ⟨rfl, hF⟩
      replace bf := (hF.block _ (size_of_block bf)).trans bf
      replace hB := below_then hB hF
      clear hF
      go_wp2_with fail
      go_ret
      exact ⟨rfl, hB⟩
set_option maxRecDepth 100000 in
set_option maxHeartbeats 8000000 in
theorem FireBetween_d (f : Fi) (A A1 A2 : Option Addr) (cap cap1 cap2 : Nat) (l : List Spt) (hs : List Int) (w : World) (hk : Lks w w.heap.size (.slice A f.ls.length cap) f.ls) (hl : Spts w w.heap.size (.slice A1 l.length cap1) l) (hh : Ints w w.heap.size (.slice A2 hs.length cap2) hs) (hfew : fewB f.ls.length = true) (h1 : fewB l.length = true) (h2 : hs.length ≤ 40) (hE : listE f l = 0) (hJ : fitsE f l hs = 0) (hF : fitsR f l hs = true) : Calls Try.prog 3 #[fiV f (.slice A f.ls.length cap), (.slice A1 l.length cap1), (.slice A2 hs.length cap2)] w fun e w' => e = .returned (.bool true) ∧ Below w.heap.size w w' := by
  have x1 := fun W h hl => Coolest_c f (.slice A f.ls.length cap) (.slice A1 l.length cap1) l W h hl
  have x2 := fun W h hl => Hottest_c f (.slice A f.ls.length cap) (.slice A1 l.length cap1) l W h hl
  have x3 := fun W v h hl hh => Fits_c f (.slice A f.ls.length cap) (.slice A1 l.length cap1) v l (l.map (endLo f f.ls)) W h hl hh
  have x4 := fun W v h hl hh => Fits_c f (.slice A f.ls.length cap) (.slice A1 l.length cap1) v l (l.map (endHi f f.ls)) W h hl hh
  have x5 := fun W h hl hh => Fits_c f (.slice A f.ls.length cap) (.slice A1 l.length cap1) (.slice A2 hs.length cap2) l hs W h hl hh
  obtain ⟨m1, m2⟩ := btw_low hE
  rw [m1, m2] at x3
  clear m1 m2
  obtain ⟨m1, m2⟩ := btw_high hE
  rw [m1, m2] at x4
  clear m1 m2
  have hc : coolR f l = l.map (endLo f f.ls) := by unfold coolR; rw [if_pos hE]
  have hh2 : hotR f l = l.map (endHi f f.ls) := by unfold hotR; rw [if_pos hE]
  rw [hE, hc] at x1
  rw [hE, hh2] at x2
  clear hc hh2
  rw [hJ, hF] at x5
  have HM : Hid (∀ (j : Nat) (p : Spt), l[j]? = some p → BtwP f p ∧ (l.map (endLo f f.ls))[j]? = some (endLo f f.ls p) ∧ (l.map (endHi f f.ls))[j]? = some (endHi f f.ls p)) := fun j p hp => ⟨btw_at hE (List.mem_of_getElem? hp), by rw [List.getElem?_map, hp]; rfl, by rw [List.getElem?_map, hp]; rfl⟩
  have HR : Hid (∀ (p q : Spt), p ∈ l → q ∈ l → farE f q p = 0 ∧ farR f q p = farI f q p ∧ (0 ≤ farI f q p ∧ farI f q p ≤ 10000000) ∧ endLo f f.ls p ≤ endLo f f.ls q + farI f q p ∧ endHi f f.ls p ≤ endHi f f.ls q + farI f q p) := fun p q hp hq => btw_far hE hp hq
  have hfl : l.length = hs.length := by have h0 := (first2.1 (known_zero hJ).2.1).2; unfold toldE at h0; by_cases hq : l.length = hs.length; exact hq; rw [if_pos hq] at h0; cases h0
  have hfb : fitsB f f.ls (l.zip hs) = true := by unfold fitsR at hF; rw [if_pos hJ] at hF; exact hF
  have HX : Hid (∀ (j : Nat) (p : Spt), l[j]? = some p → ∃ x, hs[j]? = some x ∧ endLo f f.ls p ≤ x ∧ x ≤ endHi f f.ls p) := fun j p hp => by
    have hj : j < hs.length := by have := (List.getElem?_eq_some_iff.1 hp).1; omega
    exact ⟨_, List.getElem?_eq_getElem hj, fits_at hfb hp (List.getElem?_eq_getElem hj)⟩
  have HFL := Lib.hid hfl
  clear hfl hfb
  clear hJ hF
  have e1 : (l.map (endLo f f.ls)).length = l.length := List.length_map ..
  have e2 : (l.map (endHi f f.ls)).length = l.length := List.length_map ..
  generalize l.map (endLo f f.ls) = L1 at x1 x3 HM e1
  generalize l.map (endHi f f.ls) = L2 at x2 x4 HM e2
  have d4 : ((L1.length : Int) != (l.length : Int)) = false := by rw [bne_eq_false_iff_eq]; omega
  have d5 : ((L2.length : Int) != (l.length : Int)) = false := by rw [bne_eq_false_iff_eq]; omega
  have HL1 := Lib.hid e1
  have HL2 := Lib.hid e2
  clear e1 e2 hE
  have H3 : Hid (l.length ≤ 40) := few_len h1
  have X1 := Lib.hid x1
  have X2 := Lib.hid x2
  have X3 := Lib.hid x3
  have X4 := Lib.hid x4
  have X5 := Lib.hid x5
  clear x1 x2 x3 x4 x5
  have HK := Lib.hid hk
  have HL := Lib.hid hl
  have HH := Lib.hid hh
  clear hk hl hh
  have d2 : decide ((hs.length : Int) > 40) = false := decide_eq_false (by omega)
  have H2 := Lib.hid h2
  clear h2
  unfold fiV
  go_enter Try.func3, Try.ntmps3
  have bf := heap_alloc_new w (.cells #[.int .i64 f.rise, .int .i64 f.fall, .int .i64 f.up, .int .i64 f.down, .slice A f.ls.length cap] 24)
  have HB := below_alloc w (.cells #[.int .i64 f.rise, .int .i64 f.fall, .int .i64 f.up, .int .i64 f.down, .slice A f.ls.length cap] 24)
  go_wp2_with fail
  generalize (w.alloc (.cells #[.int .i64 f.rise, .int .i64 f.fall, .int .i64 f.up, .int .i64 f.down, .slice A f.ls.length cap] 24)) = w1 at bf HB  ⊢
  have hB := HB
  clear HB
  have hk := HK.out.later hB
  have hl := HL.out.later hB
  have hh := HH.out.later hB
  refine (few_c f A f.ls.length cap _).mono ?_
  rintro e w2 ⟨rfl, hF⟩
  replace bf := (hF.block _ (size_of_block bf)).trans bf
  replace hk := hk.later hF
  replace hl := hl.later hF
  replace hh := hh.later hF
  replace hB := below_then hB hF
  clear hF
  rw [hfew]
  go_wp2_with fail
  refine (short_c A1 l.length cap1 _).mono ?_
  rintro e w' ⟨rfl, rfl⟩
  rw [h1]
  have cbf0 := Joins.cell_of_block bf 0
  have cbf1 := Joins.cell_of_block bf 1
  have cbf2 := Joins.cell_of_block bf 2
  have cbf3 := Joins.cell_of_block bf 3
  have cbf4 := Joins.cell_of_block bf 4
  go_wp2_with fail
  refine (X1.out w2 hk hl).mono ?_
  rintro e w3 ⟨s1, rfl, hs1, hF⟩
  clear cbf0 cbf1 cbf2 cbf3 cbf4
  replace bf := (hF.block _ (size_of_block bf)).trans bf
  replace hk := hk.later hF
  replace hl := hl.later hF
  replace hh := hh.later hF
  replace hB := below_then hB hF
  clear hF
  have cbf0 := Joins.cell_of_block bf 0
  have cbf1 := Joins.cell_of_block bf 1
  have cbf2 := Joins.cell_of_block bf 2
  have cbf3 := Joins.cell_of_block bf 3
  have cbf4 := Joins.cell_of_block bf 4
  go_wp2_with fail
  refine (X2.out w3 hk hl).mono ?_
  rintro e w4 ⟨s2, rfl, hs2, hF⟩
  clear cbf0 cbf1 cbf2 cbf3 cbf4
  replace bf := (hF.block _ (size_of_block bf)).trans bf
  replace hk := hk.later hF
  replace hl := hl.later hF
  replace hh := hh.later hF
  replace hs1 := own_below hs1 hF
  replace hB := below_then hB hF
  clear hF
  have hlo := Ints.of_own hs1 (by have := H3.out; have := HL1.out; omega)
  have hhi := Ints.of_own hs2 (by have := H3.out; have := HL2.out; omega)
  clear hs1 hs2
  obtain ⟨Al, capl, rfl, -, -⟩ := hlo.open_
  obtain ⟨Ah, caph, rfl, -, -⟩ := hhi.open_
  have cbf0 := Joins.cell_of_block bf 0
  have cbf1 := Joins.cell_of_block bf 1
  have cbf2 := Joins.cell_of_block bf 2
  have cbf3 := Joins.cell_of_block bf 3
  have cbf4 := Joins.cell_of_block bf 4
  go_wp2_with fail
  refine (X3.out w4 _ hk hl hlo).mono ?_
  rintro e w5 ⟨rfl, hF⟩
  clear cbf0 cbf1 cbf2 cbf3 cbf4
  replace bf := (hF.block _ (size_of_block bf)).trans bf
  replace hk := hk.later hF
  replace hl := hl.later hF
  replace hh := hh.later hF
  replace hlo := hlo.later hF
  replace hhi := hhi.later hF
  replace hB := below_then hB hF
  clear hF
  have cbf0 := Joins.cell_of_block bf 0
  have cbf1 := Joins.cell_of_block bf 1
  have cbf2 := Joins.cell_of_block bf 2
  have cbf3 := Joins.cell_of_block bf 3
  have cbf4 := Joins.cell_of_block bf 4
  go_wp2_with fail
  refine (X4.out w5 _ hk hl hhi).mono ?_
  rintro e w6 ⟨rfl, hF⟩
  clear cbf0 cbf1 cbf2 cbf3 cbf4
  replace bf := (hF.block _ (size_of_block bf)).trans bf
  replace hk := hk.later hF
  replace hl := hl.later hF
  replace hh := hh.later hF
  replace hlo := hlo.later hF
  replace hhi := hhi.later hF
  replace hB := below_then hB hF
  clear hF
  have cbf0 := Joins.cell_of_block bf 0
  have cbf1 := Joins.cell_of_block bf 1
  have cbf2 := Joins.cell_of_block bf 2
  have cbf3 := Joins.cell_of_block bf 3
  have cbf4 := Joins.cell_of_block bf 4
  go_wp2_with fail
  refine (X5.out w6 hk hl hh).mono ?_
  rintro e w7 ⟨rfl, hF⟩
  clear cbf0 cbf1 cbf2 cbf3 cbf4
  replace bf := (hF.block _ (size_of_block bf)).trans bf
  replace hk := hk.later hF
  replace hl := hl.later hF
  replace hh := hh.later hF
  replace hlo := hlo.later hF
  replace hhi := hhi.later hF
  replace hB := below_then hB hF
  clear hF
  go_wp2_with fail
  go_loopw [17] (fun i wr => ∃ j : Nat, j ≤ l.length ∧ i = .int .i64 j ∧ wr.heap[w.heap.size]? = some (.cells #[.int .i64 f.rise, .int .i64 f.fall, .int .i64 f.up, .int .i64 f.down, .slice A f.ls.length cap] 24) ∧ Sl lkC 5 wr wr.heap.size (.slice A f.ls.length cap) f.ls ∧ Sl sC 2 wr wr.heap.size (.slice A1 l.length cap1) l ∧ Sl nC 1 wr wr.heap.size (.slice A2 hs.length cap2) hs ∧ Sl nC 1 wr wr.heap.size (.slice Al L1.length capl) L1 ∧ Sl nC 1 wr wr.heap.size (.slice Ah L2.length caph) L2 ∧ Below w.heap.size w wr) (fun i _ => l.length - (intOf i).toNat)
  case atStart => exact ⟨0, Nat.zero_le _, rfl, bf, hk, hl, hh, hlo, hhi, hB⟩
  case round =>
    clear bf hk hl hh hlo hhi hB
    obtain ⟨j, hj, rfl, bf, hk, hl, hh, hlo, hhi, hB⟩ := hrel
    have h40 := H3.out
    by_cases hlt : j < l.length
    · obtain ⟨_, _, hEq, -, -, hat⟩ := Spts.open_ hl
      cases hEq
      obtain ⟨bp, op, p, hA, hbp, hxp, cp0, cp1⟩ := hat j hlt
      clear hat
      subst hA
      have HXP := Lib.hid hxp
      obtain ⟨hbt, hm1, hm2⟩ := HM.out j p hxp
      clear hxp
      have HM1 := Lib.hid hm1
      have HM2 := Lib.hid hm2
      clear hm1 hm2
      have HBT := Lib.hid hbt
      clear hbt
      have x6 := fun W h => Ends_c f (.slice A f.ls.length cap) p W h
      have x7 := fun W h => CheckEnds_c f (.slice A f.ls.length cap) p (bndI f f.ls p) W h
      rw [HBT.out.ends, HBT.out.bnd] at x6
      rw [HBT.out.chk] at x7
      unfold bndI bndV at x6 x7
      dsimp only at x6 x7
      have hdl := HBT.out.lohi
      have X6 := Lib.hid x6
      have X7 := Lib.hid x7
      clear x6 x7
      have d6 : decide (endLo f f.ls p > endHi f f.ls p) = false := decide_eq_false (by omega)
      clear hdl
      have cf0 := Joins.cell_of_block bf 0
      go_wp2_with fail
      refine wp_region_looseM [] [0, 1, 2, 3, 4] (.one 5 .done) [9] [6, 7, 8] [10, 11] [some 18] [.cells #[.int .i64 0, .int .i64 0, .int .i64 0, .int .i64 0] 38] (by kernel_rfl) (by kernel_rfl) (by intro c a d v w h; cases d <;> exact h) (by intro c a d v w h; cases d <;> exact h) rfl (by intro r i hri; match r, hri with | 0, hri => cases hri; exact ⟨_, _, rfl, rfl, rfl, rfl, fun a u => by simp [execOp, go_sem, ptrV]⟩) ?_
      simp only [pick, List.filterMap_cons, List.filterMap_nil, List.getElem?_toArray, List.getElem?_cons_succ, List.getElem?_cons_zero]
      intro u hu
      clear cf0
      have tf := (hu.block _ (size_of_block bf)).trans bf
      have ztf := size_of_block tf
      have c0 := Joins.cell_of_block tf 0
      have c1 := Joins.cell_of_block tf 1
      have c2 := Joins.cell_of_block tf 2
      have c3 := Joins.cell_of_block tf 3
      have c4 := Joins.cell_of_block tf 4
      have e0 := (hu.cell (p := ⟨bp, op + j * 2, none⟩) hbp).trans cp0
      have e1 := (hu.cell (p := ⟨bp, op + j * 2 + 1, none⟩) hbp).trans cp1
      have hzu : bp < u.heap.size := Nat.lt_of_lt_of_le hbp hu.size
      clear cp0 cp1
      have hcg : ∀ (g : Gr u) b o, b < u.heap.size → g.val.cell? ⟨b, o, none⟩ = u.cell? ⟨b, o, none⟩ := fun g b o h => (bcell g.b).1 b o h
      iterate 5 (refine wpRel_step (fun K hK => ?_); go_simp; refine hK _ ?_; clear hK K)
      refine wpRel_nil fun V0 hb0 => ?_
      clear hcg tf ztf c0 c1 c2 c3 c4 e0 e1 hzu
      have D0 := below_then hu hb0
      clear hb0 hu
      refine wpTr_step rfl rfl fun K hK => ?_
      go_simp
      refine (X6.out V0 (hk.later D0)).mono ?_
      rintro e X ⟨rfl, hx9⟩
      refine hK _ _ hx9 fun V2 hu2 => ?_
      clear hK K
      have D2 := below_then D0 (below_then hx9 hu2)
      clear hx9 hu2 D0
      show wpPure _ _ _ _
      refine wpPure_step (.tuple #[.agg #[.int .i64 (endLo f f.ls p), .int .i64 (endHi f f.ls p), .int .i64 (lowId f f.ls p), .int .i64 (highId f f.ls p)], .int .i64 0]) rfl (fun u => rfl) ?_
      refine wpPure_step (.agg #[.int .i64 (endLo f f.ls p), .int .i64 (endHi f f.ls p), .int .i64 (lowId f f.ls p), .int .i64 (highId f f.ls p)]) rfl (fun u => rfl) ?_
      refine wpPure_step (.int .i64 0) rfl (fun u => rfl) ?_
      intro ks hks hall hH
      obtain ⟨k1, rfl⟩ : ∃ k1, ks = [some k1] := by
        match ks, hks with
        | [none], _ => exact absurd rfl (hall 0)
        | [some k1], _ => exact ⟨k1, rfl⟩
      obtain ⟨o1, ge1, lt1⟩ := hH.obj 0 k1 rfl
      rw [show ([Obj.cells #[.int .i64 0, .int .i64 0, .int .i64 0, .int .i64 0] 38])[0]? = some (.cells #[.int .i64 0, .int .i64 0, .int .i64 0, .int .i64 0] 38) from rfl] at o1
      clear hH hall hks
      show wpList _ _ _ _ _ _
      simp only [deco, ptrV]
      refine wpList_store_rowTo rfl 38 _ _ rfl rfl k1 #[.int .i64 (endLo f f.ls p), .int .i64 (endHi f f.ls p), .int .i64 (lowId f f.ls p), .int .i64 (highId f f.ls p)] rfl rfl 38 _ o1 (by kernel_rfl) rfl (by kernel_rfl) ?_
      have bl := setRow_heap V2 k1 _ #[.int .i64 (endLo f f.ls p), .int .i64 (endHi f f.ls p), .int .i64 (lowId f f.ls p), .int .i64 (highId f f.ls p)] _ _ o1
      have HB := below_setRow D2 ge1 #[.int .i64 (endLo f f.ls p), .int .i64 (endHi f f.ls p), .int .i64 (lowId f f.ls p), .int .i64 (highId f f.ls p)]
      clear o1 ge1 lt1 D2
      generalize V2.setRow k1 #[.int .i64 (endLo f f.ls p), .int .i64 (endHi f f.ls p), .int .i64 (lowId f f.ls p), .int .i64 (highId f f.ls p)] = wL at bl HB ⊢
      replace bf := (HB.block _ (size_of_block bf)).trans bf
      replace hk := hk.later HB
      replace hl := hl.later HB
      replace hh := hh.later HB
      replace hlo := hlo.later HB
      replace hhi := hhi.later HB
      replace hB := below_then hB HB
      clear HB
      obtain ⟨_, _, hEq, -, -, hat⟩ := Spts.open_ hl
      cases hEq
      obtain ⟨bp9, op9, p9, hA, hbp9, hxp9, cp90, cp91⟩ := hat j hlt
      clear hat
      cases hA
      obtain rfl : p9 = p := by have := HXP.out; rw [hxp9] at this; exact Option.some.inj this
      clear hxp9
      obtain ⟨_, _, hEq, -, -, hat⟩ := Ints.open_ hlo
      cases hEq
      obtain ⟨blo, olo, lo, hA, hblo, hxlo, clo⟩ := hat j (by have := HL1.out; omega)
      clear hat
      subst hA
      obtain rfl : lo = endLo f f.ls p9 := by have := HM1.out; rw [hxlo] at this; exact Option.some.inj this
      clear hxlo
      obtain ⟨_, _, hEq, -, -, hat⟩ := Ints.open_ hhi
      cases hEq
      obtain ⟨bhi, ohi, hi, hA, hbhi, hxhi, chi⟩ := hat j (by have := HL2.out; omega)
      clear hat
      subst hA
      obtain rfl : hi = endHi f f.ls p9 := by have := HM2.out; rw [hxhi] at this; exact Option.some.inj this
      clear hxhi
      have q0 := Joins.cell_of_block bf 0
      have q1 := Joins.cell_of_block bf 1
      have q2 := Joins.cell_of_block bf 2
      have q3 := Joins.cell_of_block bf 3
      have q4 := Joins.cell_of_block bf 4
      have r0 := Joins.cell_of_block bl 0
      have r1 := Joins.cell_of_block bl 1
      have r2 := Joins.cell_of_block bl 2
      have r3 := Joins.cell_of_block bl 3
      have zbf := size_of_block bf
      have zbl := size_of_block bl
      have hjl1 : j < L1.length := by have := HL1.out; omega
      have hjl2 : j < L2.length := by have := HL2.out; omega
      have x7 := X7.out
      go_wp2_with fail
      refine wp_region_grown (by kernel_rfl) (by kernel_rfl) fun hcg => ?_
      repeat (go_big_quiet_step ((go_at_call 16; exact Calls.grown (x7 _ (hk.later (Gr.b _))))))
      refine wpQuiet_nil ?_
      intro _ hw'
      obtain ⟨g, hw''⟩ := hw'
      subst hw''
      have gb := g.b
      generalize g.val = wM at gb ⊢
      clear hcg q0 q1 q2 q3 q4 r0 r1 r2 r3 zbf zbl x7 g clo chi cp90 cp91 bl
      replace bf := (gb.block _ (size_of_block bf)).trans bf
      replace hk := hk.later gb
      replace hl := hl.later gb
      replace hh := hh.later gb
      replace hlo := hlo.later gb
      replace hhi := hhi.later gb
      replace hB := below_then hB gb
      clear gb hbp hbp9 hblo hbhi
      go_wp2_with fail
      obtain ⟨xh, hxh, hx1, hx2⟩ := HX.out j p9 HXP.out
      have HXH := Lib.hid hxh
      clear hxh
      obtain ⟨_, _, hEq, -, -, hat⟩ := Ints.open_ hlo
      cases hEq
      obtain ⟨blo7, olo7, lo7, hA, hblo7, hxlo7, clo7⟩ := hat j (by have := HL1.out; omega)
      clear hat
      cases hA
      obtain rfl : lo7 = endLo f f.ls p9 := by have := HM1.out; rw [hxlo7] at this; exact Option.some.inj this
      clear hxlo7
      obtain ⟨_, _, hEq, -, -, hat⟩ := Ints.open_ hhi
      cases hEq
      obtain ⟨bhi7, ohi7, hi7, hA, hbhi7, hxhi7, chi7⟩ := hat j (by have := HL2.out; omega)
      clear hat
      cases hA
      obtain rfl : hi7 = endHi f f.ls p9 := by have := HM2.out; rw [hxhi7] at this; exact Option.some.inj this
      clear hxhi7
      obtain ⟨_, _, hEq, -, -, hat⟩ := Ints.open_ hh
      cases hEq
      obtain ⟨bx5, ox5, x5, hA, hbx5, hxx5, cx5⟩ := hat j (by have := HFL.out; omega)
      clear hat
      subst hA
      obtain rfl : x5 = xh := by have := HXH.out; rw [hxx5] at this; exact Option.some.inj this
      clear hxx5 HXH
      have d7 : decide (x5 < endLo f f.ls p9) = false := decide_eq_false (by omega)
      have d8 : decide (x5 > endHi f f.ls p9) = false := decide_eq_false (by omega)
      have hjh : j < hs.length := by have := HFL.out; omega
      clear hx1 hx2
      refine wp_region_grown (by kernel_rfl) (by kernel_rfl) fun hcg => ?_
      repeat (go_big_quiet_step (fail))
      refine wpQuiet_nil ?_
      intro _ hw'
      obtain ⟨g, hw''⟩ := hw'
      subst hw''
      have gb := g.b
      generalize g.val = wN at gb ⊢
      clear hcg g
      clear cx5 clo7 chi7 d7 d8 hbx5 hblo7 hbhi7 hjh
      replace bf := (gb.block _ (size_of_block bf)).trans bf
      replace hk := hk.later gb
      replace hl := hl.later gb
      replace hh := hh.later gb
      replace hlo := hlo.later gb
      replace hhi := hhi.later gb
      replace hB := below_then hB gb
      clear gb
      clear d6
      obtain ⟨wo, rfl⟩ : ∃ wo : World, wo = wr := ⟨_, rfl⟩
      go_wp2_with fail
      go_loopw [20] (fun i wr => ∃ m : Nat, m ≤ l.length ∧ i = .int .i64 m ∧ wr.heap[w.heap.size]? = some (.cells #[.int .i64 f.rise, .int .i64 f.fall, .int .i64 f.up, .int .i64 f.down, .slice A f.ls.length cap] 24) ∧ Sl lkC 5 wr wr.heap.size (.slice A f.ls.length cap) f.ls ∧ Sl sC 2 wr wr.heap.size (.slice (some ⟨bp, op, none⟩) l.length cap1) l ∧ Sl nC 1 wr wr.heap.size (.slice (some ⟨bx5, ox5, none⟩) hs.length cap2) hs ∧ Sl nC 1 wr wr.heap.size (.slice (some ⟨blo, olo, none⟩) L1.length capl) L1 ∧ Sl nC 1 wr wr.heap.size (.slice (some ⟨bhi, ohi, none⟩) L2.length caph) L2 ∧ Below w.heap.size w wr) (fun i _ => l.length - (intOf i).toNat)
      case atStart => exact ⟨0, Nat.zero_le _, rfl, bf, hk, hl, hh, hlo, hhi, hB⟩
      case round =>
        clear bf hk hl hh hlo hhi hB
        obtain ⟨m, hm, rfl, bf, hk, hl, hh, hlo, hhi, hB⟩ := hrel
        by_cases hlm : m < l.length
        · obtain ⟨_, _, hEq, -, -, hat⟩ := Spts.open_ hl
          cases hEq
          obtain ⟨bq, oq, q, hA, hbq, hxq, cq0, cq1⟩ := hat m hlm
          clear hat
          cases hA
          have HXQ := Lib.hid hxq
          obtain ⟨hbt2, hm1, hm2⟩ := HM.out m q hxq
          obtain ⟨f1, f2, f3, f4, f5⟩ := HR.out p9 q (List.mem_of_getElem? HXP.out) (List.mem_of_getElem? hxq)
          clear hxq
          have HM1q := Lib.hid hm1
          have HM2q := Lib.hid hm2
          have y1 := hbt2.lo
          have y2 := hbt2.hi
          clear hm1 hm2 hbt2
          have x8 := fun W h => Far_c f (.slice A f.ls.length cap) q p9 W h
          rw [f1, f2] at x8
          clear f1 f2
          generalize farI f q p9 = dd at x8 f3 f4 f5
          unfold sV at x8
          obtain ⟨_, _, hEq, -, -, hat⟩ := Spts.open_ hl
          cases hEq
          obtain ⟨bp8, op8, p8, hA, hbp8, hxp8, cp80, cp81⟩ := hat j hlt
          clear hat
          cases hA
          obtain rfl : p8 = p9 := by have := HXP.out; rw [hxp8] at this; exact Option.some.inj this
          clear hxp8
          have q0 := Joins.cell_of_block bf 0
          have q1 := Joins.cell_of_block bf 1
          have q2 := Joins.cell_of_block bf 2
          have q3 := Joins.cell_of_block bf 3
          have q4 := Joins.cell_of_block bf 4
          have zbf := size_of_block bf
          go_wp2_with fail
          refine wp_region_grown (by kernel_rfl) (by kernel_rfl) fun hcg => ?_
          repeat (go_big_quiet_step ((go_at_call 17; exact Calls.grown (x8 _ (hk.later (Gr.b _))))))
          refine wpQuiet_nil ?_
          intro _ hw'
          obtain ⟨g, hw''⟩ := hw'
          subst hw''
          have gb := g.b
          generalize g.val = wM at gb ⊢
          clear hcg q0 q1 q2 q3 q4 zbf x8 g cq0 cq1 cp80 cp81
          replace bf := (gb.block _ (size_of_block bf)).trans bf
          replace hk := hk.later gb
          replace hl := hl.later gb
          replace hh := hh.later gb
          replace hlo := hlo.later gb
          replace hhi := hhi.later gb
          replace hB := below_then hB gb
          clear gb
          obtain ⟨_, _, hEq, -, -, hat⟩ := Ints.open_ hlo
          cases hEq
          obtain ⟨blo6, olo6, lo6, hA, hblo6, hxlo6, clo6⟩ := hat j (by have := HL1.out; omega)
          clear hat
          cases hA
          obtain rfl : lo6 = endLo f f.ls p8 := by have := HM1.out; rw [hxlo6] at this; exact Option.some.inj this
          clear hxlo6
          obtain ⟨_, _, hEq, -, -, hat⟩ := Ints.open_ hhi
          cases hEq
          obtain ⟨bhi6, ohi6, hi6, hA, hbhi6, hxhi6, chi6⟩ := hat j (by have := HL2.out; omega)
          clear hat
          cases hA
          obtain rfl : hi6 = endHi f f.ls p8 := by have := HM2.out; rw [hxhi6] at this; exact Option.some.inj this
          clear hxhi6
          obtain ⟨_, _, hEq, -, -, hat⟩ := Ints.open_ hlo
          cases hEq
          obtain ⟨bloq, oloq, loq, hA, hbloq, hxloq, cloq⟩ := hat m (by have := HL1.out; omega)
          clear hat
          cases hA
          obtain rfl : loq = endLo f f.ls q := by have := HM1q.out; rw [hxloq] at this; exact Option.some.inj this
          clear hxloq
          obtain ⟨_, _, hEq, -, -, hat⟩ := Ints.open_ hhi
          cases hEq
          obtain ⟨bhiq, ohiq, hiq, hA, hbhiq, hxhiq, chiq⟩ := hat m (by have := HL2.out; omega)
          clear hat
          cases hA
          obtain rfl : hiq = endHi f f.ls q := by have := HM2q.out; rw [hxhiq] at this; exact Option.some.inj this
          clear hxhiq
          have w1 : IntKind.i64.wrap (endLo f f.ls q + dd) = endLo f f.ls q + dd := by rw [IntKind.wrap_i64]; omega
          have w2 : IntKind.i64.wrap (endHi f f.ls q + dd) = endHi f f.ls q + dd := by rw [IntKind.wrap_i64]; omega
          have d7 : decide (endLo f f.ls p8 > endLo f f.ls q + dd) = false := decide_eq_false (by omega)
          have d8 : decide (endHi f f.ls p8 > endHi f f.ls q + dd) = false := decide_eq_false (by omega)
          have hjl1 : j < L1.length := by have := HL1.out; omega
          have hjl2 : j < L2.length := by have := HL2.out; omega
          have hml1 : m < L1.length := by have := HL1.out; omega
          have hml2 : m < L2.length := by have := HL2.out; omega
          clear f3 f4 f5 y1 y2
          go_wp2_with fail
          refine wp_region_grown (by kernel_rfl) (by kernel_rfl) fun hcg => ?_
          repeat (go_big_quiet_step (fail))
          refine wpQuiet_nil ?_
          intro _ hw'
          obtain ⟨g, hw''⟩ := hw'
          subst hw''
          have gb := g.b
          generalize g.val = wN at gb ⊢
          clear hcg g clo6 chi6 cloq chiq
          replace bf := (gb.block _ (size_of_block bf)).trans bf
          replace hk := hk.later gb
          replace hl := hl.later gb
          replace hh := hh.later gb
          replace hlo := hlo.later gb
          replace hhi := hhi.later gb
          replace hB := below_then hB gb
          clear gb
          go_wp2_with fail
          go_roundw
          case rel => exact ⟨m + 1, by omega, by go_num, bf, hk, hl, hh, hlo, hhi, hB⟩
          case measure => simp [intOf]; omega
        · obtain rfl : m = l.length := by omega
          go_wp2_with fail
          go_roundw
          case rel => exact ⟨j + 1, by omega, by go_num, bf, hk, hl, hh, hlo, hhi, hB⟩
          case measure => simp [intOf]; omega
    · obtain rfl : j = l.length := by omega
      clear hk hl hh hlo hhi
      go_wp2_with fail
      refine (sanity_c wr).mono ?_
      rintro e w51 ⟨rfl, hF⟩
      replace bf := (hF.block _ (size_of_block bf)).trans bf
      replace hB := below_then hB hF
      clear hF
      go_wp2_with fail
      go_ret
      exact ⟨rfl, hB⟩
theorem FireBetween_big1 (f : Fi) (vl : Value) (A1 : Option Addr) (n1 cap1 : Nat) (v2 : Value) (w : World) (hk : Lks w w.heap.size vl f.ls) (h1 : 40 < n1) : Calls Try.prog 3 #[fiV f vl, .slice A1 n1 cap1, v2] w fun e w' => e = .returned (.bool true) ∧ Below w.heap.size w w' := by
  obtain ⟨A, cap, rfl⟩ := hk.form
  cases hfew : fewB f.ls.length with
  | false => exact FireBetween_no f A _ cap _ _ w hfew
  | true => exact FireBetween_l1 f A cap A1 n1 cap1 v2 (few_big h1) w hfew
theorem FireBetween_big2 (f : Fi) (vl v1 : Value) (l : List Spt) (A2 : Option Addr) (n2 cap2 : Nat) (w : World) (hk : Lks w w.heap.size vl f.ls) (hl : Spts w w.heap.size v1 l) (h2 : 40 < n2) : Calls Try.prog 3 #[fiV f vl, v1, .slice A2 n2 cap2] w fun e w' => e = .returned (.bool true) ∧ Below w.heap.size w w' := by
  obtain ⟨A1, cap1, rfl⟩ := Sl.form hl
  obtain ⟨A, cap, rfl⟩ := hk.form
  cases hfew : fewB f.ls.length with
  | false => exact FireBetween_no f A _ cap _ _ w hfew
  | true =>
    cases h1 : fewB l.length with
    | false => exact FireBetween_l1 f A cap A1 _ cap1 _ h1 w hfew
    | true => exact FireBetween_l2 f A cap A1 A2 _ cap1 n2 cap2 h1 h2 w hfew
theorem FireBetween_w (f : Fi) (vl v1 : Value) (l : List Spt) (v2 : Value) (hs : List Int) (w : World) (hk : Lks w w.heap.size vl f.ls) (hl : Spts w w.heap.size v1 l) (hh : Ints w w.heap.size v2 hs) : Calls Try.prog 3 #[fiV f vl, v1, v2] w fun e w' => e = .returned (.bool true) ∧ Below w.heap.size w w' := by
  obtain ⟨A2, cap2, rfl⟩ := Sl.form hh
  by_cases h2 : 40 < hs.length
  · exact FireBetween_big2 f vl v1 l A2 _ cap2 w hk hl h2
  · obtain ⟨A1, cap1, rfl⟩ := Sl.form hl
    obtain ⟨A, cap, rfl⟩ := hk.form
    cases hfew : fewB f.ls.length with
    | false => exact FireBetween_no f A _ cap _ _ w hfew
    | true =>
      cases h1 : fewB l.length with
      | false => exact FireBetween_l1 f A cap A1 _ cap1 _ h1 w hfew
      | true =>
        by_cases hE : listE f l = 0
        · by_cases hJ : fitsE f l hs = 0
          · cases hF : fitsR f l hs with
            | false => exact FireBetween_c f A A1 A2 cap cap1 cap2 l hs w hk hl hh hfew h1 (by omega) hE hJ hF
            | true => exact FireBetween_d f A A1 A2 cap cap1 cap2 l hs w hk hl hh hfew h1 (by omega) hE hJ hF
          · exact FireBetween_b f A A1 A2 cap cap1 cap2 l hs w hk hl hh hfew h1 (by omega) hE hJ
        · exact FireBetween_a f A A1 A2 cap cap1 cap2 l hs w hk hl hh hfew h1 (by omega) hE
end Go.Proofs.Ytjpoacffnpgjdaa
