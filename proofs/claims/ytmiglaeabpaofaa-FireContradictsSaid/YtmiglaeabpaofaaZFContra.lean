/- FireContradicts: Ends, Clash, CheckClash and Suspects tell the same of a fire (written by tools/gencontra.py). -/
import Derived.Test.YtmiglaeabpaofaaZFLawK
import Derived.Test.YtmiglaeabpaofaaZFConM
import Derived.Test.YtmiglaeabpaofaaZFLawS
import Derived.Test.YtmiglaeabpaofaaJ25
import Derived.Test.YtmiglaeabpaofaaJ19
namespace Go.Proofs.Ytmiglaeabpaofaa
open Go Go.RowKit Go.Shelf
attribute [local go_sem] Oper.semAt_some Rel RelAt RelUpon
set_option maxRecDepth 100000 in
set_option maxHeartbeats 4000000 in
theorem FireContradicts_no (f : Fi) (A : Option Addr) (n cap : Nat) (p : Spt) (a b : Int) (w : World) (h : fewB n = false) : Calls Try.prog 4 #[fiV f (.slice A n cap), sV p, .int .i64 a, .int .i64 b] w fun e w' => e = .returned (.bool true) ∧ Below w.heap.size w w' := by
  unfold fiV sV
  go_enter Try.func4, Try.ntmps4
  obtain ⟨bf, bp, -, HB⟩ := two_new' w (.cells #[.int .i64 f.rise, .int .i64 f.fall, .int .i64 f.up, .int .i64 f.down, .slice A n cap] 24) (.cells #[.int .i64 p.foot, .int .i64 p.hour] 42)
  go_wp2_with fail
  generalize ((w.alloc (.cells #[.int .i64 f.rise, .int .i64 f.fall, .int .i64 f.up, .int .i64 f.down, .slice A n cap] 24)).alloc (.cells #[.int .i64 p.foot, .int .i64 p.hour] 42)) = w1 at bf bp HB  ⊢
  have hB := HB
  clear HB
  refine (few_c f A n cap _).mono ?_
  rintro e w2 ⟨rfl, hF⟩
  replace bf := (hF.block _ (size_of_block bf)).trans bf
  replace bp := (hF.block _ (size_of_block bp)).trans bp
  replace hB := below_then hB hF
  clear hF
  rw [h]
  go_wp2_with fail
  refine (sanity_c _).mono ?_
  rintro e w3 ⟨rfl, hF⟩
  replace bf := (hF.block _ (size_of_block bf)).trans bf
  replace bp := (hF.block _ (size_of_block bp)).trans bp
  replace hB := below_then hB hF
  clear hF
  go_wp2_with fail
  go_ret
  exact ⟨rfl, hB⟩
set_option maxRecDepth 100000 in
set_option maxHeartbeats 4000000 in
theorem FireContradicts_a (f : Fi) (A : Option Addr) (cap : Nat) (p : Spt) (a b : Int) (w : World) (hk : Lks w w.heap.size (.slice A f.ls.length cap) f.ls) (hfew : fewB f.ls.length = true) (hE : fireI f ≠ 0) : Calls Try.prog 4 #[fiV f (.slice A f.ls.length cap), sV p, .int .i64 a, .int .i64 b] w fun e w' => e = .returned (.bool true) ∧ Below w.heap.size w w' := by
  obtain ⟨E, hE2⟩ : ∃ e, e = fireI f := ⟨_, rfl⟩
  rw [← hE2] at hE
  have x1 := fun W h => Clash_c f (.slice A f.ls.length cap) W h
  have x2 := fun W h => Suspects_c f (.slice A f.ls.length cap) W h
  rw [← hE2] at x1 x2
  clear hE2
  obtain ⟨⟨c, d, is⟩, hc⟩ : ∃ e, e = clashR f := ⟨_, rfl⟩
  rw [← hc] at x1
  clear hc
  obtain ⟨S, hS⟩ : ∃ e, e = suspR f := ⟨_, rfl⟩
  rw [← hS] at x2
  clear hS
  have d1 : (E != 0) = true := by simpa using hE
  clear hE
  simp only at x1
  have X1 := Lib.hid x1
  have X2 := Lib.hid x2
  clear x1 x2
  have HK := Lib.hid hk
  clear hk
  unfold fiV sV
  go_enter Try.func4, Try.ntmps4
  obtain ⟨bf, bp, -, HB⟩ := two_new' w (.cells #[.int .i64 f.rise, .int .i64 f.fall, .int .i64 f.up, .int .i64 f.down, .slice A f.ls.length cap] 24) (.cells #[.int .i64 p.foot, .int .i64 p.hour] 42)
  go_wp2_with fail
  generalize ((w.alloc (.cells #[.int .i64 f.rise, .int .i64 f.fall, .int .i64 f.up, .int .i64 f.down, .slice A f.ls.length cap] 24)).alloc (.cells #[.int .i64 p.foot, .int .i64 p.hour] 42)) = w1 at bf bp HB  ⊢
  have hB := HB
  clear HB
  have hk := HK.out.later hB
  refine (few_c f A f.ls.length cap _).mono ?_
  rintro e w2 ⟨rfl, hF⟩
  replace bf := (hF.block _ (size_of_block bf)).trans bf
  replace bp := (hF.block _ (size_of_block bp)).trans bp
  replace hk := hk.later hF
  replace hB := below_then hB hF
  clear hF
  rw [hfew]
  have cbf0 := Joins.cell_of_block bf 0
  have cbf1 := Joins.cell_of_block bf 1
  have cbf2 := Joins.cell_of_block bf 2
  have cbf3 := Joins.cell_of_block bf 3
  have cbf4 := Joins.cell_of_block bf 4
  go_wp2_with fail
  refine (X1.out w2 hk).mono ?_
  rintro e w3 ⟨rfl, hF⟩
  clear cbf0 cbf1 cbf2 cbf3 cbf4
  replace bf := (hF.block _ (size_of_block bf)).trans bf
  replace bp := (hF.block _ (size_of_block bp)).trans bp
  replace hk := hk.later hF
  replace hB := below_then hB hF
  clear hF
  have cbf0 := Joins.cell_of_block bf 0
  have cbf1 := Joins.cell_of_block bf 1
  have cbf2 := Joins.cell_of_block bf 2
  have cbf3 := Joins.cell_of_block bf 3
  have cbf4 := Joins.cell_of_block bf 4
  go_wp2_with fail
  refine (X2.out w3 hk).mono ?_
  rintro e w4 ⟨s1, rfl, hs1, hF⟩
  clear cbf0 cbf1 cbf2 cbf3 cbf4
  replace bf := (hF.block _ (size_of_block bf)).trans bf
  replace bp := (hF.block _ (size_of_block bp)).trans bp
  replace hk := hk.later hF
  replace hB := below_then hB hF
  clear hF
  go_wp2_with fail
  refine (sanity_c _).mono ?_
  rintro e w5 ⟨rfl, hF⟩
  replace bf := (hF.block _ (size_of_block bf)).trans bf
  replace bp := (hF.block _ (size_of_block bp)).trans bp
  replace hk := hk.later hF
  replace hs1 := own_below hs1 hF
  replace hB := below_then hB hF
  clear hF
  go_wp2_with fail
  go_ret
  exact ⟨rfl, hB⟩
set_option maxRecDepth 100000 in
set_option maxHeartbeats 4000000 in
theorem FireContradicts_b (f : Fi) (A : Option Addr) (cap : Nat) (p : Spt) (a b : Int) (w : World) (hk : Lks w w.heap.size (.slice A f.ls.length cap) f.ls) (hfew : fewB f.ls.length = true) (hE : fireI f = 0) (hz : endsE f p = 1) : Calls Try.prog 4 #[fiV f (.slice A f.ls.length cap), sV p, .int .i64 a, .int .i64 b] w fun e w' => e = .returned (.bool true) ∧ Below w.heap.size w w' := by
  have x1 := fun W h => Clash_c f (.slice A f.ls.length cap) W h
  have x2 := fun W h => Suspects_c f (.slice A f.ls.length cap) W h
  rw [hE] at x1 x2
  have x3 := fun W h => Ends_c f (.slice A f.ls.length cap) p W h
  rw [hz] at x3
  obtain ⟨R, hR⟩ : ∃ e, e = endsR f p := ⟨_, rfl⟩
  rw [← hR] at x3
  clear hR
  unfold bndV at x3
  obtain ⟨⟨c, d, is⟩, hc⟩ : ∃ e, e = clashR f := ⟨_, rfl⟩
  rw [← hc] at x1
  clear hc
  obtain ⟨S, hS⟩ : ∃ e, e = suspR f := ⟨_, rfl⟩
  rw [← hS] at x2
  clear hS hE hz
  simp only at x1
  have X1 := Lib.hid x1
  have X2 := Lib.hid x2
  have X3 := Lib.hid x3
  clear x1 x2 x3
  have HK := Lib.hid hk
  clear hk
  unfold fiV sV
  go_enter Try.func4, Try.ntmps4
  obtain ⟨bf, bp, -, HB⟩ := two_new' w (.cells #[.int .i64 f.rise, .int .i64 f.fall, .int .i64 f.up, .int .i64 f.down, .slice A f.ls.length cap] 24) (.cells #[.int .i64 p.foot, .int .i64 p.hour] 42)
  go_wp2_with fail
  generalize ((w.alloc (.cells #[.int .i64 f.rise, .int .i64 f.fall, .int .i64 f.up, .int .i64 f.down, .slice A f.ls.length cap] 24)).alloc (.cells #[.int .i64 p.foot, .int .i64 p.hour] 42)) = w1 at bf bp HB  ⊢
  have hB := HB
  clear HB
  have hk := HK.out.later hB
  refine (few_c f A f.ls.length cap _).mono ?_
  rintro e w2 ⟨rfl, hF⟩
  replace bf := (hF.block _ (size_of_block bf)).trans bf
  replace bp := (hF.block _ (size_of_block bp)).trans bp
  replace hk := hk.later hF
  replace hB := below_then hB hF
  clear hF
  rw [hfew]
  have cbf0 := Joins.cell_of_block bf 0
  have cbf1 := Joins.cell_of_block bf 1
  have cbf2 := Joins.cell_of_block bf 2
  have cbf3 := Joins.cell_of_block bf 3
  have cbf4 := Joins.cell_of_block bf 4
  go_wp2_with fail
  refine (X1.out w2 hk).mono ?_
  rintro e w3 ⟨rfl, hF⟩
  clear cbf0 cbf1 cbf2 cbf3 cbf4
  replace bf := (hF.block _ (size_of_block bf)).trans bf
  replace bp := (hF.block _ (size_of_block bp)).trans bp
  replace hk := hk.later hF
  replace hB := below_then hB hF
  clear hF
  have cbf0 := Joins.cell_of_block bf 0
  have cbf1 := Joins.cell_of_block bf 1
  have cbf2 := Joins.cell_of_block bf 2
  have cbf3 := Joins.cell_of_block bf 3
  have cbf4 := Joins.cell_of_block bf 4
  go_wp2_with fail
  refine (X2.out w3 hk).mono ?_
  rintro e w4 ⟨s1, rfl, hs1, hF⟩
  clear cbf0 cbf1 cbf2 cbf3 cbf4
  replace bf := (hF.block _ (size_of_block bf)).trans bf
  replace bp := (hF.block _ (size_of_block bp)).trans bp
  replace hk := hk.later hF
  replace hB := below_then hB hF
  clear hF
  have cbf0 := Joins.cell_of_block bf 0
  have cbf1 := Joins.cell_of_block bf 1
  have cbf2 := Joins.cell_of_block bf 2
  have cbf3 := Joins.cell_of_block bf 3
  have cbf4 := Joins.cell_of_block bf 4
  have cbp0 := Joins.cell_of_block bp 0
  have cbp1 := Joins.cell_of_block bp 1
  go_wp2_with fail
  refine (X3.out w4 hk).mono ?_
  rintro e w5 ⟨rfl, hF⟩
  clear cbf0 cbf1 cbf2 cbf3 cbf4 cbp0 cbp1
  replace bf := (hF.block _ (size_of_block bf)).trans bf
  replace bp := (hF.block _ (size_of_block bp)).trans bp
  replace hk := hk.later hF
  replace hs1 := own_below hs1 hF
  replace hB := below_then hB hF
  clear hF
  have bx := heap_alloc_new w5 (.cells #[.int .i64 R.lo, .int .i64 R.hi, .int .i64 R.low, .int .i64 R.high] 38)
  have HB := below_alloc w5 (.cells #[.int .i64 R.lo, .int .i64 R.hi, .int .i64 R.low, .int .i64 R.high] 38)
  go_wp2_with fail
  generalize (w5.alloc (.cells #[.int .i64 R.lo, .int .i64 R.hi, .int .i64 R.low, .int .i64 R.high] 38)) = w6 at bx HB  ⊢
  replace bf := (HB.block _ (size_of_block bf)).trans bf
  replace bp := (HB.block _ (size_of_block bp)).trans bp
  replace hk := hk.later HB
  replace hs1 := own_below hs1 HB
  replace hB := below_then hB HB
  clear HB
  refine (sanity_c _).mono ?_
  rintro e w7 ⟨rfl, hF⟩
  replace bf := (hF.block _ (size_of_block bf)).trans bf
  replace bp := (hF.block _ (size_of_block bp)).trans bp
  replace bx := (hF.block _ (size_of_block bx)).trans bx
  replace hk := hk.later hF
  replace hs1 := own_below hs1 hF
  replace hB := below_then hB hF
  clear hF
  go_wp2_with fail
  go_ret
  exact ⟨rfl, hB⟩
set_option maxRecDepth 100000 in
set_option maxHeartbeats 4000000 in
theorem FireContradicts_c (f : Fi) (A : Option Addr) (cap : Nat) (p : Spt) (a b : Int) (w : World) (hk : Lks w w.heap.size (.slice A f.ls.length cap) f.ls) (hfew : fewB f.ls.length = true) (hE : fireI f = 0) (hz : endsE f p = 0) (hc : clashR f = ⟨0, 0, false⟩) (hS : suspR f = []) (hK : chkClashI f a b ≠ 0) : Calls Try.prog 4 #[fiV f (.slice A f.ls.length cap), sV p, .int .i64 a, .int .i64 b] w fun e w' => e = .returned (.bool true) ∧ Below w.heap.size w w' := by
  have x1 := fun W h => Clash_c f (.slice A f.ls.length cap) W h
  have x2 := fun W h => Suspects_c f (.slice A f.ls.length cap) W h
  rw [hE] at x1 x2
  have x3 := fun W h => Ends_c f (.slice A f.ls.length cap) p W h
  rw [hc] at x1
  rw [hS] at x2
  rw [hz] at x3
  obtain ⟨R, hR⟩ : ∃ e, e = endsR f p := ⟨_, rfl⟩
  rw [← hR] at x3
  clear hR
  unfold bndV at x3
  have x4 := fun W h => CheckClash_c f (.slice A f.ls.length cap) a b W h
  obtain ⟨K1, hK1⟩ : ∃ e, e = chkClashI f a b := ⟨_, rfl⟩
  rw [← hK1] at x4 hK
  clear hK1 hE hz hc hS
  have d1 : (K1 == 0) = false := by simpa using hK
  clear hK
  simp only [List.length_nil, List.map] at x1 x2
  have X1 := Lib.hid x1
  have X2 := Lib.hid x2
  have X3 := Lib.hid x3
  have X4 := Lib.hid x4
  clear x1 x2 x3 x4
  have HK := Lib.hid hk
  clear hk
  unfold fiV sV
  go_enter Try.func4, Try.ntmps4
  obtain ⟨bf, bp, -, HB⟩ := two_new' w (.cells #[.int .i64 f.rise, .int .i64 f.fall, .int .i64 f.up, .int .i64 f.down, .slice A f.ls.length cap] 24) (.cells #[.int .i64 p.foot, .int .i64 p.hour] 42)
  go_wp2_with fail
  generalize ((w.alloc (.cells #[.int .i64 f.rise, .int .i64 f.fall, .int .i64 f.up, .int .i64 f.down, .slice A f.ls.length cap] 24)).alloc (.cells #[.int .i64 p.foot, .int .i64 p.hour] 42)) = w1 at bf bp HB  ⊢
  have hB := HB
  clear HB
  have hk := HK.out.later hB
  refine (few_c f A f.ls.length cap _).mono ?_
  rintro e w2 ⟨rfl, hF⟩
  replace bf := (hF.block _ (size_of_block bf)).trans bf
  replace bp := (hF.block _ (size_of_block bp)).trans bp
  replace hk := hk.later hF
  replace hB := below_then hB hF
  clear hF
  rw [hfew]
  have cbf0 := Joins.cell_of_block bf 0
  have cbf1 := Joins.cell_of_block bf 1
  have cbf2 := Joins.cell_of_block bf 2
  have cbf3 := Joins.cell_of_block bf 3
  have cbf4 := Joins.cell_of_block bf 4
  go_wp2_with fail
  refine (X1.out w2 hk).mono ?_
  rintro e w3 ⟨rfl, hF⟩
  clear cbf0 cbf1 cbf2 cbf3 cbf4
  replace bf := (hF.block _ (size_of_block bf)).trans bf
  replace bp := (hF.block _ (size_of_block bp)).trans bp
  replace hk := hk.later hF
  replace hB := below_then hB hF
  clear hF
  have cbf0 := Joins.cell_of_block bf 0
  have cbf1 := Joins.cell_of_block bf 1
  have cbf2 := Joins.cell_of_block bf 2
  have cbf3 := Joins.cell_of_block bf 3
  have cbf4 := Joins.cell_of_block bf 4
  go_wp2_with fail
  refine (X2.out w3 hk).mono ?_
  rintro e w4 ⟨s1, rfl, hs1, hF⟩
  clear cbf0 cbf1 cbf2 cbf3 cbf4
  replace bf := (hF.block _ (size_of_block bf)).trans bf
  replace bp := (hF.block _ (size_of_block bp)).trans bp
  replace hk := hk.later hF
  replace hB := below_then hB hF
  clear hF
  obtain ⟨As, caps, rfl⟩ := own_form hs1
  have cbf0 := Joins.cell_of_block bf 0
  have cbf1 := Joins.cell_of_block bf 1
  have cbf2 := Joins.cell_of_block bf 2
  have cbf3 := Joins.cell_of_block bf 3
  have cbf4 := Joins.cell_of_block bf 4
  have cbp0 := Joins.cell_of_block bp 0
  have cbp1 := Joins.cell_of_block bp 1
  go_wp2_with fail
  refine (X3.out w4 hk).mono ?_
  rintro e w5 ⟨rfl, hF⟩
  clear cbf0 cbf1 cbf2 cbf3 cbf4 cbp0 cbp1
  replace bf := (hF.block _ (size_of_block bf)).trans bf
  replace bp := (hF.block _ (size_of_block bp)).trans bp
  replace hk := hk.later hF
  replace hs1 := own_below hs1 hF
  replace hB := below_then hB hF
  clear hF
  have bx := heap_alloc_new w5 (.cells #[.int .i64 R.lo, .int .i64 R.hi, .int .i64 R.low, .int .i64 R.high] 38)
  have HB := below_alloc w5 (.cells #[.int .i64 R.lo, .int .i64 R.hi, .int .i64 R.low, .int .i64 R.high] 38)
  have cbf0 := Joins.cell_of_block ((HB.block _ (size_of_block bf)).trans bf) 0
  have cbf1 := Joins.cell_of_block ((HB.block _ (size_of_block bf)).trans bf) 1
  have cbf2 := Joins.cell_of_block ((HB.block _ (size_of_block bf)).trans bf) 2
  have cbf3 := Joins.cell_of_block ((HB.block _ (size_of_block bf)).trans bf) 3
  have cbf4 := Joins.cell_of_block ((HB.block _ (size_of_block bf)).trans bf) 4
  go_wp2_with fail
  generalize (w5.alloc (.cells #[.int .i64 R.lo, .int .i64 R.hi, .int .i64 R.low, .int .i64 R.high] 38)) = w6 at bx HB cbf0 cbf1 cbf2 cbf3 cbf4 ⊢
  replace bf := (HB.block _ (size_of_block bf)).trans bf
  replace bp := (HB.block _ (size_of_block bp)).trans bp
  replace hk := hk.later HB
  replace hs1 := own_below hs1 HB
  replace hB := below_then hB HB
  clear HB
  refine (X4.out w6 hk).mono ?_
  rintro e w7 ⟨rfl, hF⟩
  clear cbf0 cbf1 cbf2 cbf3 cbf4
  replace bf := (hF.block _ (size_of_block bf)).trans bf
  replace bp := (hF.block _ (size_of_block bp)).trans bp
  replace bx := (hF.block _ (size_of_block bx)).trans bx
  replace hk := hk.later hF
  replace hs1 := own_below hs1 hF
  replace hB := below_then hB hF
  clear hF
  go_wp2_with fail
  go_loopw [18] (fun i wr => i = .int .i64 0 ∧ wr = w7) (fun _ _ => 0)
  case atStart => exact ⟨rfl, rfl⟩
  case round =>
    obtain ⟨rfl, rfl⟩ := hrel
    go_wp2_with fail
    refine (sanity_c _).mono ?_
    rintro e w8 ⟨rfl, hF⟩
    replace bf := (hF.block _ (size_of_block bf)).trans bf
    replace bp := (hF.block _ (size_of_block bp)).trans bp
    replace bx := (hF.block _ (size_of_block bx)).trans bx
    replace hk := hk.later hF
    replace hs1 := own_below hs1 hF
    replace hB := below_then hB hF
    clear hF
    go_wp2_with fail
    go_ret
    exact ⟨rfl, hB⟩
set_option maxRecDepth 100000 in
set_option maxHeartbeats 4000000 in
theorem FireContradicts_d (f : Fi) (A : Option Addr) (cap : Nat) (p : Spt) (a b : Int) (w : World) (hk : Lks w w.heap.size (.slice A f.ls.length cap) f.ls) (hfew : fewB f.ls.length = true) {c d : Int} {bs : Bool} (hE : fireI f = 0) (hz : endsE f p = 9) (hc : clashR f = ⟨c, d, true⟩) (hK : chkClashI f c d = 0) (hb : (chkClashI f a b == 0) = bs) (hS : ∀ n ∈ suspR f, ConN f c d n) (hlen : (suspR f).length ≤ 24) : Calls Try.prog 4 #[fiV f (.slice A f.ls.length cap), sV p, .int .i64 a, .int .i64 b] w fun e w' => e = .returned (.bool true) ∧ Below w.heap.size w w' := by
  have x1 := fun W h => Clash_c f (.slice A f.ls.length cap) W h
  have x2 := fun W h => Suspects_c f (.slice A f.ls.length cap) W h
  rw [hE] at x1 x2
  have x3 := fun W h => Ends_c f (.slice A f.ls.length cap) p W h
  rw [hc] at x1
  rw [hz] at x3
  obtain ⟨R, hR⟩ : ∃ e, e = endsR f p := ⟨_, rfl⟩
  rw [← hR] at x3
  clear hR
  unfold bndV at x3
  have x4 := fun W h => CheckClash_c f (.slice A f.ls.length cap) a b W h
  have x5 := fun W h => CheckClash_c f (.slice A f.ls.length cap) c d W h
  rw [hK] at x5
  obtain ⟨K1, hK1⟩ : ∃ e, e = chkClashI f a b := ⟨_, rfl⟩
  rw [← hK1] at x4 hb
  clear hK1 hz hc hK
  obtain ⟨S, hS2⟩ : ∃ e, e = suspR f := ⟨_, rfl⟩
  rw [← hS2] at x2 hS hlen
  clear hS2
  simp only at x1
  have HS := Lib.hid hS
  clear hS
  have HN := Lib.hid hlen
  clear hlen
  have x6 := fun W vi n (hn : ConN f c d n) h hi => Without_c f (.slice A f.ls.length cap) vi [n] W h hi
  have HE := Lib.hid hE
  clear hE
  have X1 := Lib.hid x1
  have X2 := Lib.hid x2
  have X3 := Lib.hid x3
  have X4 := Lib.hid x4
  have X5 := Lib.hid x5
  have X6 := Lib.hid x6
  clear x1 x2 x3 x4 x5 x6
  have HK := Lib.hid hk
  clear hk
  unfold fiV sV
  go_enter Try.func4, Try.ntmps4
  obtain ⟨bf, bp, -, HB⟩ := two_new' w (.cells #[.int .i64 f.rise, .int .i64 f.fall, .int .i64 f.up, .int .i64 f.down, .slice A f.ls.length cap] 24) (.cells #[.int .i64 p.foot, .int .i64 p.hour] 42)
  go_wp2_with fail
  generalize ((w.alloc (.cells #[.int .i64 f.rise, .int .i64 f.fall, .int .i64 f.up, .int .i64 f.down, .slice A f.ls.length cap] 24)).alloc (.cells #[.int .i64 p.foot, .int .i64 p.hour] 42)) = w1 at bf bp HB  ⊢
  have hB := HB
  clear HB
  have hk := HK.out.later hB
  refine (few_c f A f.ls.length cap _).mono ?_
  rintro e w2 ⟨rfl, hF⟩
  replace bf := (hF.block _ (size_of_block bf)).trans bf
  replace bp := (hF.block _ (size_of_block bp)).trans bp
  replace hk := hk.later hF
  replace hB := below_then hB hF
  clear hF
  rw [hfew]
  have cbf0 := Joins.cell_of_block bf 0
  have cbf1 := Joins.cell_of_block bf 1
  have cbf2 := Joins.cell_of_block bf 2
  have cbf3 := Joins.cell_of_block bf 3
  have cbf4 := Joins.cell_of_block bf 4
  go_wp2_with fail
  refine (X1.out w2 hk).mono ?_
  rintro e w3 ⟨rfl, hF⟩
  clear cbf0 cbf1 cbf2 cbf3 cbf4
  replace bf := (hF.block _ (size_of_block bf)).trans bf
  replace bp := (hF.block _ (size_of_block bp)).trans bp
  replace hk := hk.later hF
  replace hB := below_then hB hF
  clear hF
  have cbf0 := Joins.cell_of_block bf 0
  have cbf1 := Joins.cell_of_block bf 1
  have cbf2 := Joins.cell_of_block bf 2
  have cbf3 := Joins.cell_of_block bf 3
  have cbf4 := Joins.cell_of_block bf 4
  go_wp2_with fail
  refine (X2.out w3 hk).mono ?_
  rintro e w4 ⟨s1, rfl, hs1, hF⟩
  clear cbf0 cbf1 cbf2 cbf3 cbf4
  replace bf := (hF.block _ (size_of_block bf)).trans bf
  replace bp := (hF.block _ (size_of_block bp)).trans bp
  replace hk := hk.later hF
  replace hB := below_then hB hF
  clear hF
  have hs := Ints.of_own hs1 (by have := HN.out; omega)
  clear hs1
  obtain ⟨As, caps, rfl, -, -⟩ := hs.open_
  have cbf0 := Joins.cell_of_block bf 0
  have cbf1 := Joins.cell_of_block bf 1
  have cbf2 := Joins.cell_of_block bf 2
  have cbf3 := Joins.cell_of_block bf 3
  have cbf4 := Joins.cell_of_block bf 4
  have cbp0 := Joins.cell_of_block bp 0
  have cbp1 := Joins.cell_of_block bp 1
  go_wp2_with fail
  refine (X3.out w4 hk).mono ?_
  rintro e w5 ⟨rfl, hF⟩
  clear cbf0 cbf1 cbf2 cbf3 cbf4 cbp0 cbp1
  replace bf := (hF.block _ (size_of_block bf)).trans bf
  replace bp := (hF.block _ (size_of_block bp)).trans bp
  replace hk := hk.later hF
  replace hs := hs.later hF
  replace hB := below_then hB hF
  clear hF
  have bx := heap_alloc_new w5 (.cells #[.int .i64 R.lo, .int .i64 R.hi, .int .i64 R.low, .int .i64 R.high] 38)
  have HB := below_alloc w5 (.cells #[.int .i64 R.lo, .int .i64 R.hi, .int .i64 R.low, .int .i64 R.high] 38)
  have cbf0 := Joins.cell_of_block ((HB.block _ (size_of_block bf)).trans bf) 0
  have cbf1 := Joins.cell_of_block ((HB.block _ (size_of_block bf)).trans bf) 1
  have cbf2 := Joins.cell_of_block ((HB.block _ (size_of_block bf)).trans bf) 2
  have cbf3 := Joins.cell_of_block ((HB.block _ (size_of_block bf)).trans bf) 3
  have cbf4 := Joins.cell_of_block ((HB.block _ (size_of_block bf)).trans bf) 4
  go_wp2_with fail
  generalize (w5.alloc (.cells #[.int .i64 R.lo, .int .i64 R.hi, .int .i64 R.low, .int .i64 R.high] 38)) = w6 at bx HB cbf0 cbf1 cbf2 cbf3 cbf4 ⊢
  replace bf := (HB.block _ (size_of_block bf)).trans bf
  replace bp := (HB.block _ (size_of_block bp)).trans bp
  replace hk := hk.later HB
  replace hs := hs.later HB
  replace hB := below_then hB HB
  clear HB
  refine (X4.out w6 hk).mono ?_
  rintro e w7 ⟨rfl, hF⟩
  clear cbf0 cbf1 cbf2 cbf3 cbf4
  replace bf := (hF.block _ (size_of_block bf)).trans bf
  replace bp := (hF.block _ (size_of_block bp)).trans bp
  replace bx := (hF.block _ (size_of_block bx)).trans bx
  replace hk := hk.later hF
  replace hs := hs.later hF
  replace hB := below_then hB hF
  clear hF
  cases bs
  · have cbf0 := Joins.cell_of_block bf 0
    have cbf1 := Joins.cell_of_block bf 1
    have cbf2 := Joins.cell_of_block bf 2
    have cbf3 := Joins.cell_of_block bf 3
    have cbf4 := Joins.cell_of_block bf 4
    go_wp2_with fail
    refine (X5.out w7 hk).mono ?_
    rintro e w8 ⟨rfl, hF⟩
    clear cbf0 cbf1 cbf2 cbf3 cbf4
    replace bf := (hF.block _ (size_of_block bf)).trans bf
    replace bp := (hF.block _ (size_of_block bp)).trans bp
    replace bx := (hF.block _ (size_of_block bx)).trans bx
    replace hk := hk.later hF
    replace hs := hs.later hF
    replace hB := below_then hB hF
    clear hF
    go_wp2_with fail
    clear bp bx
    go_loopw [18] (fun i wr => ∃ j : Nat, j ≤ S.length ∧ i = .int .i64 j ∧ wr.heap[w.heap.size]? = some (.cells #[.int .i64 f.rise, .int .i64 f.fall, .int .i64 f.up, .int .i64 f.down, .slice A f.ls.length cap] 24) ∧ Sl lkC 5 wr wr.heap.size (.slice A f.ls.length cap) f.ls ∧ Sl nC 1 wr wr.heap.size (.slice As S.length caps) S ∧ Below w.heap.size w wr) (fun i _ => S.length - (intOf i).toNat)
    case atStart => exact ⟨0, Nat.zero_le _, rfl, bf, hk, hs, hB⟩
    case round =>
      clear bf hk hs hB
      obtain ⟨j, hj, rfl, bf, hk, hs, hB⟩ := hrel
      have h24 := HN.out
      by_cases hlt : j < S.length
      · obtain ⟨As, caps, hEq, -, -, hat⟩ := Ints.open_ hs
        cases hEq
        obtain ⟨b9, off, x, h9, hb9, hx, d0⟩ := hat j hlt
        clear hat
        subst h9
        have HX := HS.out x (List.mem_of_getElem? hx)
        have hx' := Lib.hid hx
        clear hx
        have cf0 := Joins.cell_of_block bf 0
        go_wp2_with fail
        refine wp_region_looseM [] [0, 1, 2, 3, 4] (.one 5 (.one 6 .done)) [10] [7, 8, 9] [11, 12] [some 19] [.cells #[.int .i64 0, .int .i64 0, .int .i64 0, .int .i64 0, .slice none 0 0] 24] (by kernel_rfl) (by kernel_rfl) (by intro c a d v w h; cases d <;> exact h) (by intro c a d v w h; cases d <;> exact h) rfl (by intro r i hri; match r, hri with | 0, hri => cases hri; exact ⟨_, _, rfl, rfl, rfl, rfl, fun a u => by simp [execOp, go_sem, ptrV]⟩) ?_
        simp only [pick, List.filterMap_cons, List.filterMap_nil, List.getElem?_toArray, List.getElem?_cons_succ, List.getElem?_cons_zero]
        intro u hu
        clear cf0
        have tf := (hu.block _ (size_of_block bf)).trans bf
        have ztf := size_of_block tf
        have c0 := Joins.cell_of_block tf 0
        have c1 := Joins.cell_of_block tf 1
        have c2 := Joins.cell_of_block tf 2
        have c3 := Joins.cell_of_block tf 3
        have c4 := Joins.cell_of_block tf 4
        have e0 := (hu.cell (p := ⟨b9, off + j, none⟩) hb9).trans d0
        have hzu : b9 < u.heap.size := Nat.lt_of_lt_of_le hb9 hu.size
        clear d0
        have hcg : ∀ (g : Gr u) b o, b < u.heap.size → g.val.cell? ⟨b, o, none⟩ = u.cell? ⟨b, o, none⟩ := fun g b o h => (bcell g.b).1 b o h
        iterate 5 (refine wpRel_step (fun K hK => ?_); go_simp; refine hK _ ?_; clear hK K)
        refine wpRel_nil fun V0 hb0 => ?_
        clear hcg tf ztf c0 c1 c2 c3 c4 e0 hzu
        have D0 := below_then hu hb0
        clear hb0 hu
        refine wpTr_step rfl rfl fun K hK => ?_
        go_simp
        refine hK _ _ (below_alloc _ _) fun V1 hu1 => ?_
        clear hK K
        have hn1 := (builtL nC_len V0 [x] 3 #[.int .i64 x] V0.heap.size 1 rfl (by simp) rfl rfl).later hu1
        have D1 := below_then D0 (below_then (below_alloc V0 (.cells #[.int .i64 x] 3)) hu1)
        clear hu1 D0
        refine wpTr_step rfl rfl fun K hK => ?_
        go_simp
        refine (X6.out V1 _ x HX (hk.later D1) hn1).mono ?_
        rw [HX.way, HE.out]
        rintro e X ⟨lv, rfl, hlv, hx9⟩
        refine hK _ _ hx9 fun V2 hu2 => ?_
        clear hK K
        replace hlv := hlv.later hu2
        have hf9 : ∃ (A : Option Addr) (n c : Nat), lv = .slice A n c := by
          obtain ⟨A, c, h⟩ := Sl.form hlv; exact ⟨_, _, _, h⟩
        obtain ⟨Al, nl, capl, rfl⟩ := hf9
        have D2 := below_then D1 (below_then hx9 hu2)
        clear hx9 hu2 D1 hn1
        show wpPure _ _ _ _
        refine wpPure_step (.tuple #[.agg #[.int .i64 f.rise, .int .i64 f.fall, .int .i64 f.up, .int .i64 f.down, .slice Al nl capl], .int .i64 0]) rfl (fun u => rfl) ?_
        refine wpPure_step (.agg #[.int .i64 f.rise, .int .i64 f.fall, .int .i64 f.up, .int .i64 f.down, .slice Al nl capl]) rfl (fun u => rfl) ?_
        refine wpPure_step (.int .i64 0) rfl (fun u => rfl) ?_
        intro ks hks hall hH
        obtain ⟨k1, rfl⟩ : ∃ k1, ks = [some k1] := by
          match ks, hks with
          | [none], _ => exact absurd rfl (hall 0)
          | [some k1], _ => exact ⟨k1, rfl⟩
        obtain ⟨o1, ge1, lt1⟩ := hH.obj 0 k1 rfl
        rw [show ([Obj.cells #[.int .i64 0, .int .i64 0, .int .i64 0, .int .i64 0, .slice none 0 0] 24])[0]? = some (.cells #[.int .i64 0, .int .i64 0, .int .i64 0, .int .i64 0, .slice none 0 0] 24) from rfl] at o1
        clear hH hall hks
        show wpList _ _ _ _ _ _
        simp only [deco, ptrV]
        refine wpList_store_rowTo rfl 24 _ _ rfl rfl k1 #[.int .i64 f.rise, .int .i64 f.fall, .int .i64 f.up, .int .i64 f.down, .slice Al nl capl] rfl rfl 24 _ o1 (by kernel_rfl) rfl (by kernel_rfl) ?_
        have bl := setRow_heap V2 k1 _ #[.int .i64 f.rise, .int .i64 f.fall, .int .i64 f.up, .int .i64 f.down, .slice Al nl capl] _ _ o1
        have HB := below_setRow D2 ge1 #[.int .i64 f.rise, .int .i64 f.fall, .int .i64 f.up, .int .i64 f.down, .slice Al nl capl]
        have hlv2 := lks_setRow hlv o1 #[.int .i64 f.rise, .int .i64 f.fall, .int .i64 f.up, .int .i64 f.down, .slice Al nl capl]
        have hlv3 : Sl lkC 5 (V2.setRow k1 #[.int .i64 f.rise, .int .i64 f.fall, .int .i64 f.up, .int .i64 f.down, .slice Al nl capl]) (V2.setRow k1 #[.int .i64 f.rise, .int .i64 f.fall, .int .i64 f.up, .int .i64 f.down, .slice Al nl capl]).heap.size (.slice Al nl capl) (withF f (butL f.ls [x])).ls := hlv2.more (Nat.le_of_eq (size_setRow _ _ _).symm)
        clear hlv hlv2 o1 ge1 lt1 D2
        generalize V2.setRow k1 #[.int .i64 f.rise, .int .i64 f.fall, .int .i64 f.up, .int .i64 f.down, .slice Al nl capl] = wL at bl HB hlv3 ⊢
        replace bf := (HB.block _ (size_of_block bf)).trans bf
        replace hk := hk.later HB
        replace hs := hs.later HB
        replace hB := below_then hB HB
        clear HB
        have x7 := Clash_c (withF f (butL f.ls [x])) (.slice Al nl capl) wL hlv3
        rw [HX.none_, HX.ok] at x7
        simp only at x7
        have X7 := Lib.hid x7
        have hone := Lib.hid HX.one
        clear x7 HX
        have cbl0 := Joins.cell_of_block bl 0
        have cbl1 := Joins.cell_of_block bl 1
        have cbl2 := Joins.cell_of_block bl 2
        have cbl3 := Joins.cell_of_block bl 3
        have cbl4 := Joins.cell_of_block bl 4
        go_wp2_with fail
        refine (X7.out).mono ?_
        rintro e w1 ⟨rfl, hF⟩
        clear cbl0 cbl1 cbl2 cbl3 cbl4
        replace bf := (hF.block _ (size_of_block bf)).trans bf
        replace bl := (hF.block _ (size_of_block bl)).trans bl
        replace hk := hk.later hF
        replace hs := hs.later hF
        replace hlv3 := hlv3.later hF
        replace hB := below_then hB hF
        clear hF
        clear hlv3 bl X7
        obtain ⟨A8, cap8, hA8, -, -, hat⟩ := Ints.open_ hs
        cases hA8
        obtain ⟨b8, o8, x8, h8, hb8, hx8, d8⟩ := hat j hlt
        cases h8
        obtain rfl : x8 = x := by have := hx'.out; rw [hx8] at this; exact Option.some.inj this
        clear hat hx8 hx'
        have hcd : (x8 != c) = false ∨ ((x8 != c) = true ∧ (x8 != d) = false) := by
          rcases hone.out with h | h
          · left; simp [h]
          · by_cases h2 : x8 = c
            · left; simp [h2]
            · right; simp [h]; exact fun h3 => h2 (h.trans h3)
        clear hone
        rcases hcd with hcd | ⟨hcd, hcd2⟩
        all_goals
          go_wp2_with fail
          go_roundw
          case rel => exact ⟨j + 1, by omega, by go_num, bf, hk, hs, hB⟩
          case measure => simp [intOf]; omega
      · obtain rfl : j = S.length := by omega
        go_wp2_with fail
        refine (sanity_c wr).mono ?_
        rintro e w1 ⟨rfl, hF⟩
        replace bf := (hF.block _ (size_of_block bf)).trans bf
        replace hk := hk.later hF
        replace hs := hs.later hF
        replace hB := below_then hB hF
        clear hF
        go_wp2_with fail
        go_ret
        exact ⟨rfl, hB⟩
  · have cbf0 := Joins.cell_of_block bf 0
    have cbf1 := Joins.cell_of_block bf 1
    have cbf2 := Joins.cell_of_block bf 2
    have cbf3 := Joins.cell_of_block bf 3
    have cbf4 := Joins.cell_of_block bf 4
    go_wp2_with fail
    refine (X5.out w7 hk).mono ?_
    rintro e w8 ⟨rfl, hF⟩
    clear cbf0 cbf1 cbf2 cbf3 cbf4
    replace bf := (hF.block _ (size_of_block bf)).trans bf
    replace bp := (hF.block _ (size_of_block bp)).trans bp
    replace bx := (hF.block _ (size_of_block bx)).trans bx
    replace hk := hk.later hF
    replace hs := hs.later hF
    replace hB := below_then hB hF
    clear hF
    go_wp2_with fail
    clear bp bx
    go_loopw [18] (fun i wr => ∃ j : Nat, j ≤ S.length ∧ i = .int .i64 j ∧ wr.heap[w.heap.size]? = some (.cells #[.int .i64 f.rise, .int .i64 f.fall, .int .i64 f.up, .int .i64 f.down, .slice A f.ls.length cap] 24) ∧ Sl lkC 5 wr wr.heap.size (.slice A f.ls.length cap) f.ls ∧ Sl nC 1 wr wr.heap.size (.slice As S.length caps) S ∧ Below w.heap.size w wr) (fun i _ => S.length - (intOf i).toNat)
    case atStart => exact ⟨0, Nat.zero_le _, rfl, bf, hk, hs, hB⟩
    case round =>
      clear bf hk hs hB
      obtain ⟨j, hj, rfl, bf, hk, hs, hB⟩ := hrel
      have h24 := HN.out
      by_cases hlt : j < S.length
      · obtain ⟨As, caps, hEq, -, -, hat⟩ := Ints.open_ hs
        cases hEq
        obtain ⟨b9, off, x, h9, hb9, hx, d0⟩ := hat j hlt
        clear hat
        subst h9
        have HX := HS.out x (List.mem_of_getElem? hx)
        have hx' := Lib.hid hx
        clear hx
        have cf0 := Joins.cell_of_block bf 0
        go_wp2_with fail
        refine wp_region_looseM [] [0, 1, 2, 3, 4] (.one 5 (.one 6 .done)) [10] [7, 8, 9] [11, 12] [some 19] [.cells #[.int .i64 0, .int .i64 0, .int .i64 0, .int .i64 0, .slice none 0 0] 24] (by kernel_rfl) (by kernel_rfl) (by intro c a d v w h; cases d <;> exact h) (by intro c a d v w h; cases d <;> exact h) rfl (by intro r i hri; match r, hri with | 0, hri => cases hri; exact ⟨_, _, rfl, rfl, rfl, rfl, fun a u => by simp [execOp, go_sem, ptrV]⟩) ?_
        simp only [pick, List.filterMap_cons, List.filterMap_nil, List.getElem?_toArray, List.getElem?_cons_succ, List.getElem?_cons_zero]
        intro u hu
        clear cf0
        have tf := (hu.block _ (size_of_block bf)).trans bf
        have ztf := size_of_block tf
        have c0 := Joins.cell_of_block tf 0
        have c1 := Joins.cell_of_block tf 1
        have c2 := Joins.cell_of_block tf 2
        have c3 := Joins.cell_of_block tf 3
        have c4 := Joins.cell_of_block tf 4
        have e0 := (hu.cell (p := ⟨b9, off + j, none⟩) hb9).trans d0
        have hzu : b9 < u.heap.size := Nat.lt_of_lt_of_le hb9 hu.size
        clear d0
        have hcg : ∀ (g : Gr u) b o, b < u.heap.size → g.val.cell? ⟨b, o, none⟩ = u.cell? ⟨b, o, none⟩ := fun g b o h => (bcell g.b).1 b o h
        iterate 5 (refine wpRel_step (fun K hK => ?_); go_simp; refine hK _ ?_; clear hK K)
        refine wpRel_nil fun V0 hb0 => ?_
        clear hcg tf ztf c0 c1 c2 c3 c4 e0 hzu
        have D0 := below_then hu hb0
        clear hb0 hu
        refine wpTr_step rfl rfl fun K hK => ?_
        go_simp
        refine hK _ _ (below_alloc _ _) fun V1 hu1 => ?_
        clear hK K
        have hn1 := (builtL nC_len V0 [x] 3 #[.int .i64 x] V0.heap.size 1 rfl (by simp) rfl rfl).later hu1
        have D1 := below_then D0 (below_then (below_alloc V0 (.cells #[.int .i64 x] 3)) hu1)
        clear hu1 D0
        refine wpTr_step rfl rfl fun K hK => ?_
        go_simp
        refine (X6.out V1 _ x HX (hk.later D1) hn1).mono ?_
        rw [HX.way, HE.out]
        rintro e X ⟨lv, rfl, hlv, hx9⟩
        refine hK _ _ hx9 fun V2 hu2 => ?_
        clear hK K
        replace hlv := hlv.later hu2
        have hf9 : ∃ (A : Option Addr) (n c : Nat), lv = .slice A n c := by
          obtain ⟨A, c, h⟩ := Sl.form hlv; exact ⟨_, _, _, h⟩
        obtain ⟨Al, nl, capl, rfl⟩ := hf9
        have D2 := below_then D1 (below_then hx9 hu2)
        clear hx9 hu2 D1 hn1
        show wpPure _ _ _ _
        refine wpPure_step (.tuple #[.agg #[.int .i64 f.rise, .int .i64 f.fall, .int .i64 f.up, .int .i64 f.down, .slice Al nl capl], .int .i64 0]) rfl (fun u => rfl) ?_
        refine wpPure_step (.agg #[.int .i64 f.rise, .int .i64 f.fall, .int .i64 f.up, .int .i64 f.down, .slice Al nl capl]) rfl (fun u => rfl) ?_
        refine wpPure_step (.int .i64 0) rfl (fun u => rfl) ?_
        intro ks hks hall hH
        obtain ⟨k1, rfl⟩ : ∃ k1, ks = [some k1] := by
          match ks, hks with
          | [none], _ => exact absurd rfl (hall 0)
          | [some k1], _ => exact ⟨k1, rfl⟩
        obtain ⟨o1, ge1, lt1⟩ := hH.obj 0 k1 rfl
        rw [show ([Obj.cells #[.int .i64 0, .int .i64 0, .int .i64 0, .int .i64 0, .slice none 0 0] 24])[0]? = some (.cells #[.int .i64 0, .int .i64 0, .int .i64 0, .int .i64 0, .slice none 0 0] 24) from rfl] at o1
        clear hH hall hks
        show wpList _ _ _ _ _ _
        simp only [deco, ptrV]
        refine wpList_store_rowTo rfl 24 _ _ rfl rfl k1 #[.int .i64 f.rise, .int .i64 f.fall, .int .i64 f.up, .int .i64 f.down, .slice Al nl capl] rfl rfl 24 _ o1 (by kernel_rfl) rfl (by kernel_rfl) ?_
        have bl := setRow_heap V2 k1 _ #[.int .i64 f.rise, .int .i64 f.fall, .int .i64 f.up, .int .i64 f.down, .slice Al nl capl] _ _ o1
        have HB := below_setRow D2 ge1 #[.int .i64 f.rise, .int .i64 f.fall, .int .i64 f.up, .int .i64 f.down, .slice Al nl capl]
        have hlv2 := lks_setRow hlv o1 #[.int .i64 f.rise, .int .i64 f.fall, .int .i64 f.up, .int .i64 f.down, .slice Al nl capl]
        have hlv3 : Sl lkC 5 (V2.setRow k1 #[.int .i64 f.rise, .int .i64 f.fall, .int .i64 f.up, .int .i64 f.down, .slice Al nl capl]) (V2.setRow k1 #[.int .i64 f.rise, .int .i64 f.fall, .int .i64 f.up, .int .i64 f.down, .slice Al nl capl]).heap.size (.slice Al nl capl) (withF f (butL f.ls [x])).ls := hlv2.more (Nat.le_of_eq (size_setRow _ _ _).symm)
        clear hlv hlv2 o1 ge1 lt1 D2
        generalize V2.setRow k1 #[.int .i64 f.rise, .int .i64 f.fall, .int .i64 f.up, .int .i64 f.down, .slice Al nl capl] = wL at bl HB hlv3 ⊢
        replace bf := (HB.block _ (size_of_block bf)).trans bf
        replace hk := hk.later HB
        replace hs := hs.later HB
        replace hB := below_then hB HB
        clear HB
        have x7 := Clash_c (withF f (butL f.ls [x])) (.slice Al nl capl) wL hlv3
        rw [HX.none_, HX.ok] at x7
        simp only at x7
        have X7 := Lib.hid x7
        have hone := Lib.hid HX.one
        clear x7 HX
        have cbl0 := Joins.cell_of_block bl 0
        have cbl1 := Joins.cell_of_block bl 1
        have cbl2 := Joins.cell_of_block bl 2
        have cbl3 := Joins.cell_of_block bl 3
        have cbl4 := Joins.cell_of_block bl 4
        go_wp2_with fail
        refine (X7.out).mono ?_
        rintro e w1 ⟨rfl, hF⟩
        clear cbl0 cbl1 cbl2 cbl3 cbl4
        replace bf := (hF.block _ (size_of_block bf)).trans bf
        replace bl := (hF.block _ (size_of_block bl)).trans bl
        replace hk := hk.later hF
        replace hs := hs.later hF
        replace hlv3 := hlv3.later hF
        replace hB := below_then hB hF
        clear hF
        clear hlv3 bl X7
        obtain ⟨A8, cap8, hA8, -, -, hat⟩ := Ints.open_ hs
        cases hA8
        obtain ⟨b8, o8, x8, h8, hb8, hx8, d8⟩ := hat j hlt
        cases h8
        obtain rfl : x8 = x := by have := hx'.out; rw [hx8] at this; exact Option.some.inj this
        clear hat hx8 hx'
        have hcd : (x8 != c) = false ∨ ((x8 != c) = true ∧ (x8 != d) = false) := by
          rcases hone.out with h | h
          · left; simp [h]
          · by_cases h2 : x8 = c
            · left; simp [h2]
            · right; simp [h]; exact fun h3 => h2 (h.trans h3)
        clear hone
        rcases hcd with hcd | ⟨hcd, hcd2⟩
        all_goals
          go_wp2_with fail
          go_roundw
          case rel => exact ⟨j + 1, by omega, by go_num, bf, hk, hs, hB⟩
          case measure => simp [intOf]; omega
      · obtain rfl : j = S.length := by omega
        go_wp2_with fail
        refine (sanity_c wr).mono ?_
        rintro e w1 ⟨rfl, hF⟩
        replace bf := (hF.block _ (size_of_block bf)).trans bf
        replace hk := hk.later hF
        replace hs := hs.later hF
        replace hB := below_then hB hF
        clear hF
        go_wp2_with fail
        go_ret
        exact ⟨rfl, hB⟩
theorem FireContradicts_w (f : Fi) (vl : Value) (p : Spt) (a b : Int) (w : World) (hk : Lks w w.heap.size vl f.ls) : Calls Try.prog 4 #[fiV f vl, sV p, .int .i64 a, .int .i64 b] w fun e w' => e = .returned (.bool true) ∧ Below w.heap.size w w' := by
  obtain ⟨A, cap, rfl⟩ := hk.form
  cases hfew : fewB f.ls.length with
  | false => exact FireContradicts_no f A _ cap p a b w hfew
  | true =>
  by_cases hE : fireI f = 0
  · rcases con_ends p hE with hz | hz
    · exact FireContradicts_b f A cap p a b w hk hfew hE hz
    · rcases con_math hE with ⟨ha, hc, hS, hK⟩ | ⟨c, d, hc, ha, hK, hS⟩
      · rw [ha] at hz
        exact FireContradicts_c f A cap p a b w hk hfew hE hz hc hS (hK a b)
      · rw [ha] at hz
        exact FireContradicts_d f A cap p a b w hk hfew hE hz hc hK rfl hS (susp_len (fire_ok hE))
  · exact FireContradicts_a f A cap p a b w hk hfew hE
end Go.Proofs.Ytmiglaeabpaofaa
