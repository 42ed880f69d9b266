/- FireMore: a further look moves no end outwards; Rests are the looks that an end hangs on (written by tools/genmorefire.py). -/
import Derived.Test.YtmiglaeabpaofaaZFLawK
import Derived.Test.YtmiglaeabpaofaaZFMorM
import Derived.Test.YtmiglaeabpaofaaJ25
import Derived.Test.YtmiglaeabpaofaaJ22
import Derived.Test.YtmiglaeabpaofaaJ23
namespace Go.Proofs.Ytmiglaeabpaofaa
open Go Go.RowKit Go.Shelf
attribute [local go_sem] Oper.semAt_some Rel RelAt RelUpon
set_option maxRecDepth 100000 in
set_option maxHeartbeats 4000000 in
theorem FireMore_no (f : Fi) (A : Option Addr) (n cap : Nat) (x : Lk) (p : Spt) (id : Int) (w : World) (h : fewB n = false) : Calls Try.prog 5 #[fiV f (.slice A n cap), lkV x, sV p, .int .i64 id] w fun e w' => e = .returned (.bool true) ∧ Below w.heap.size w w' := by
  unfold fiV lkV sV
  go_enter Try.func5, Try.ntmps5
  obtain ⟨bf, bx, bp, -, HB⟩ := three_new w (.cells #[.int .i64 f.rise, .int .i64 f.fall, .int .i64 f.up, .int .i64 f.down, .slice A n cap] 24) (.cells #[.int .i64 x.id, .int .i64 x.foot, .int .i64 x.hour, .int .i64 x.lo, .int .i64 x.hi] 55) (.cells #[.int .i64 p.foot, .int .i64 p.hour] 42)
  go_wp2_with fail
  generalize (((w.alloc (.cells #[.int .i64 f.rise, .int .i64 f.fall, .int .i64 f.up, .int .i64 f.down, .slice A n cap] 24)).alloc (.cells #[.int .i64 x.id, .int .i64 x.foot, .int .i64 x.hour, .int .i64 x.lo, .int .i64 x.hi] 55)).alloc (.cells #[.int .i64 p.foot, .int .i64 p.hour] 42)) = w1 at bf bx bp HB  ⊢
  have hB := HB
  clear HB
  refine (few_c f A n cap _).mono ?_
  rintro e w2 ⟨rfl, hF⟩
  replace bf := (hF.block _ (size_of_block bf)).trans bf
  replace bx := (hF.block _ (size_of_block bx)).trans bx
  replace bp := (hF.block _ (size_of_block bp)).trans bp
  replace hB := below_then hB hF
  clear hF
  rw [h]
  go_wp2_with fail
  refine (sanity_c _).mono ?_
  rintro e w3 ⟨rfl, hF⟩
  replace bf := (hF.block _ (size_of_block bf)).trans bf
  replace bx := (hF.block _ (size_of_block bx)).trans bx
  replace bp := (hF.block _ (size_of_block bp)).trans bp
  replace hB := below_then hB hF
  clear hF
  go_wp2_with fail
  go_ret
  exact ⟨rfl, hB⟩
set_option maxRecDepth 100000 in
set_option maxHeartbeats 4000000 in
theorem FireMore_a (f : Fi) (A : Option Addr) (cap : Nat) (x : Lk) (p : Spt) (id : Int) (w : World) (hk : Lks w w.heap.size (.slice A f.ls.length cap) f.ls) (hfew : fewB f.ls.length = true) (hE : endsE f p ≠ 0) : Calls Try.prog 5 #[fiV f (.slice A f.ls.length cap), lkV x, sV p, .int .i64 id] w fun e w' => e = .returned (.bool true) ∧ Below w.heap.size w w' := by
  have d1 : (endsE f p != 0) = true := by simpa using hE
  clear hE
  have x1 := fun W h => Ends_c f (.slice A f.ls.length cap) p W h
  obtain ⟨E, hE2⟩ : ∃ e, e = endsE f p := ⟨_, rfl⟩
  obtain ⟨R1, hR1⟩ : ∃ e, e = endsR f p := ⟨_, rfl⟩
  rw [← hE2, ← hR1] at x1
  rw [← hE2] at d1
  clear hE2 hR1
  unfold bndV at x1
  have X1 := Lib.hid x1
  clear x1
  have HK := Lib.hid hk
  clear hk
  unfold fiV lkV sV
  go_enter Try.func5, Try.ntmps5
  obtain ⟨bf, bx, bp, -, HB⟩ := three_new w (.cells #[.int .i64 f.rise, .int .i64 f.fall, .int .i64 f.up, .int .i64 f.down, .slice A f.ls.length cap] 24) (.cells #[.int .i64 x.id, .int .i64 x.foot, .int .i64 x.hour, .int .i64 x.lo, .int .i64 x.hi] 55) (.cells #[.int .i64 p.foot, .int .i64 p.hour] 42)
  go_wp2_with fail
  generalize (((w.alloc (.cells #[.int .i64 f.rise, .int .i64 f.fall, .int .i64 f.up, .int .i64 f.down, .slice A f.ls.length cap] 24)).alloc (.cells #[.int .i64 x.id, .int .i64 x.foot, .int .i64 x.hour, .int .i64 x.lo, .int .i64 x.hi] 55)).alloc (.cells #[.int .i64 p.foot, .int .i64 p.hour] 42)) = w1 at bf bx bp HB  ⊢
  have hB := HB
  clear HB
  have hk := HK.out.later hB
  refine (few_c f A f.ls.length cap _).mono ?_
  rintro e w2 ⟨rfl, hF⟩
  replace bf := (hF.block _ (size_of_block bf)).trans bf
  replace bx := (hF.block _ (size_of_block bx)).trans bx
  replace bp := (hF.block _ (size_of_block bp)).trans bp
  replace hk := hk.later hF
  replace hB := below_then hB hF
  clear hF
  rw [hfew]
  have cbf0 := Joins.cell_of_block bf 0
  have cbf1 := Joins.cell_of_block bf 1
  have cbf2 := Joins.cell_of_block bf 2
  have cbf3 := Joins.cell_of_block bf 3
  have cbf4 := Joins.cell_of_block bf 4
  have cbp0 := Joins.cell_of_block bp 0
  have cbp1 := Joins.cell_of_block bp 1
  go_wp2_with fail
  refine (X1.out w2 hk).mono ?_
  rintro e w3 ⟨rfl, hF⟩
  clear cbf0 cbf1 cbf2 cbf3 cbf4 cbp0 cbp1
  replace bf := (hF.block _ (size_of_block bf)).trans bf
  replace bx := (hF.block _ (size_of_block bx)).trans bx
  replace bp := (hF.block _ (size_of_block bp)).trans bp
  replace hk := hk.later hF
  replace hB := below_then hB hF
  clear hF
  have bn := heap_alloc_new w3 (.cells #[.int .i64 R1.lo, .int .i64 R1.hi, .int .i64 R1.low, .int .i64 R1.high] 38)
  have HB := below_alloc w3 (.cells #[.int .i64 R1.lo, .int .i64 R1.hi, .int .i64 R1.low, .int .i64 R1.high] 38)
  go_wp2_with fail
  generalize (w3.alloc (.cells #[.int .i64 R1.lo, .int .i64 R1.hi, .int .i64 R1.low, .int .i64 R1.high] 38)) = w4 at bn HB  ⊢
  replace bf := (HB.block _ (size_of_block bf)).trans bf
  replace bx := (HB.block _ (size_of_block bx)).trans bx
  replace bp := (HB.block _ (size_of_block bp)).trans bp
  replace hk := hk.later HB
  replace hB := below_then hB HB
  clear HB
  refine (sanity_c _).mono ?_
  rintro e w5 ⟨rfl, hF⟩
  replace bf := (hF.block _ (size_of_block bf)).trans bf
  replace bx := (hF.block _ (size_of_block bx)).trans bx
  replace bp := (hF.block _ (size_of_block bp)).trans bp
  replace bn := (hF.block _ (size_of_block bn)).trans bn
  replace hk := hk.later hF
  replace hB := below_then hB hF
  clear hF
  go_wp2_with fail
  go_ret
  exact ⟨rfl, hB⟩
set_option maxRecDepth 100000 in
set_option maxHeartbeats 4000000 in
theorem FireMore_g1 (f : Fi) (A : Option Addr) (cap : Nat) (x : Lk) (p : Spt) (id : Int) (w : World) (hk : Lks w w.heap.size (.slice A f.ls.length cap) f.ls) (hfew : fewB f.ls.length = true) {R1 R5 : Bnd} (hK : MorK f x p id R1 R5) (hE : endsE f p = 0) (hlen : (restsR f p).length ≤ 24) (hG : wouldE f x p = 0) (hH : endsE f x.at_ ≠ 0) : Calls Try.prog 5 #[fiV f (.slice A f.ls.length cap), lkV x, sV p, .int .i64 id] w fun e w' => e = .returned (.bool true) ∧ Below w.heap.size w w' := by
  have x1 := fun W h => Ends_c f (.slice A f.ls.length cap) p W h
  rw [hK.now, hE] at x1
  have x2 := fun W h => Would_c f (.slice A f.ls.length cap) x p W h
  obtain ⟨R2, hR2⟩ : ∃ e, e = wouldR f x p := ⟨_, rfl⟩
  rw [← hR2] at x2
  have hm := hK.more hG
  rw [← hR2] at hm
  rw [hG] at x2
  have d2 : decide (R2.lo < R1.lo) = false := decide_eq_false (by omega)
  have d3 : decide (R1.hi < R2.hi) = false := decide_eq_false (by omega)
  clear hm
  clear hG hR2
  have x3 := fun W h => Ends_c f (.slice A f.ls.length cap) x.at_ W h
  obtain ⟨R3, hR3⟩ : ∃ e, e = endsR f x.at_ := ⟨_, rfl⟩
  rw [← hR3] at x3
  obtain ⟨H, hH2⟩ : ∃ e, e = endsE f x.at_ := ⟨_, rfl⟩
  rw [← hH2] at x3 hH
  have d4 : (H == 0) = false := by simpa using hH
  clear hH2 hH hR3
  have x5 := fun W h => Rests_c f (.slice A f.ls.length cap) p W h
  rw [hE] at x5
  have hrs := hK.rests
  obtain ⟨L, hL⟩ : ∃ e, e = restsR f p := ⟨_, rfl⟩
  rw [← hL] at x5 hrs hlen
  clear hL hE
  have x6 := fun W vi h hi => Without_c f (.slice A f.ls.length cap) vi [id] W h hi
  rw [hK.way, hK.fire] at x6
  have x7 := fun W v h => Ends_c (withF f (butL f.ls [id])) v p W h
  rw [hK.less, hK.then_] at x7
  clear hK
  generalize butL f.ls [id] = M at x6 x7
  have hnb := fun W => Try.neSp R5.lo R5.hi R1.lo R1.hi W
  rw [← hrs] at hnb
  clear hrs
  unfold bndV at x1 x2 x3 x7
  dsimp only [fiV, withF] at x6
  have HN := Lib.hid hlen
  clear hlen
  have X1 := Lib.hid x1
  have X2 := Lib.hid x2
  have X3 := Lib.hid x3
  have X5 := Lib.hid x5
  have X6 := Lib.hid x6
  have X7 := Lib.hid x7
  clear x1 x2 x3 x5 x6 x7
  have HK := Lib.hid hk
  clear hk
  unfold fiV lkV sV
  go_enter Try.func5, Try.ntmps5
  obtain ⟨bf, bx, bp, -, HB⟩ := three_new w (.cells #[.int .i64 f.rise, .int .i64 f.fall, .int .i64 f.up, .int .i64 f.down, .slice A f.ls.length cap] 24) (.cells #[.int .i64 x.id, .int .i64 x.foot, .int .i64 x.hour, .int .i64 x.lo, .int .i64 x.hi] 55) (.cells #[.int .i64 p.foot, .int .i64 p.hour] 42)
  go_wp2_with fail
  generalize (((w.alloc (.cells #[.int .i64 f.rise, .int .i64 f.fall, .int .i64 f.up, .int .i64 f.down, .slice A f.ls.length cap] 24)).alloc (.cells #[.int .i64 x.id, .int .i64 x.foot, .int .i64 x.hour, .int .i64 x.lo, .int .i64 x.hi] 55)).alloc (.cells #[.int .i64 p.foot, .int .i64 p.hour] 42)) = w1 at bf bx bp HB  ⊢
  have hB := HB
  clear HB
  have hk := HK.out.later hB
  refine (few_c f A f.ls.length cap _).mono ?_
  rintro e w2 ⟨rfl, hF⟩
  replace bf := (hF.block _ (size_of_block bf)).trans bf
  replace bx := (hF.block _ (size_of_block bx)).trans bx
  replace bp := (hF.block _ (size_of_block bp)).trans bp
  replace hk := hk.later hF
  replace hB := below_then hB hF
  clear hF
  rw [hfew]
  have cbf0 := Joins.cell_of_block bf 0
  have cbf1 := Joins.cell_of_block bf 1
  have cbf2 := Joins.cell_of_block bf 2
  have cbf3 := Joins.cell_of_block bf 3
  have cbf4 := Joins.cell_of_block bf 4
  have cbp0 := Joins.cell_of_block bp 0
  have cbp1 := Joins.cell_of_block bp 1
  go_wp2_with fail
  refine (X1.out w2 hk).mono ?_
  rintro e w3 ⟨rfl, hF⟩
  clear cbf0 cbf1 cbf2 cbf3 cbf4 cbp0 cbp1
  replace bf := (hF.block _ (size_of_block bf)).trans bf
  replace bx := (hF.block _ (size_of_block bx)).trans bx
  replace bp := (hF.block _ (size_of_block bp)).trans bp
  replace hk := hk.later hF
  replace hB := below_then hB hF
  clear hF
  have bn := heap_alloc_new w3 (.cells #[.int .i64 R1.lo, .int .i64 R1.hi, .int .i64 R1.low, .int .i64 R1.high] 38)
  have HB := below_alloc w3 (.cells #[.int .i64 R1.lo, .int .i64 R1.hi, .int .i64 R1.low, .int .i64 R1.high] 38)
  have cbf0 := Joins.cell_of_block ((HB.block _ (size_of_block bf)).trans bf) 0
  have cbf1 := Joins.cell_of_block ((HB.block _ (size_of_block bf)).trans bf) 1
  have cbf2 := Joins.cell_of_block ((HB.block _ (size_of_block bf)).trans bf) 2
  have cbf3 := Joins.cell_of_block ((HB.block _ (size_of_block bf)).trans bf) 3
  have cbf4 := Joins.cell_of_block ((HB.block _ (size_of_block bf)).trans bf) 4
  have cbx0 := Joins.cell_of_block ((HB.block _ (size_of_block bx)).trans bx) 0
  have cbx1 := Joins.cell_of_block ((HB.block _ (size_of_block bx)).trans bx) 1
  have cbx2 := Joins.cell_of_block ((HB.block _ (size_of_block bx)).trans bx) 2
  have cbx3 := Joins.cell_of_block ((HB.block _ (size_of_block bx)).trans bx) 3
  have cbx4 := Joins.cell_of_block ((HB.block _ (size_of_block bx)).trans bx) 4
  have cbp0 := Joins.cell_of_block ((HB.block _ (size_of_block bp)).trans bp) 0
  have cbp1 := Joins.cell_of_block ((HB.block _ (size_of_block bp)).trans bp) 1
  go_wp2_with fail
  generalize (w3.alloc (.cells #[.int .i64 R1.lo, .int .i64 R1.hi, .int .i64 R1.low, .int .i64 R1.high] 38)) = w4 at bn HB cbf0 cbf1 cbf2 cbf3 cbf4 cbx0 cbx1 cbx2 cbx3 cbx4 cbp0 cbp1 ⊢
  replace bf := (HB.block _ (size_of_block bf)).trans bf
  replace bx := (HB.block _ (size_of_block bx)).trans bx
  replace bp := (HB.block _ (size_of_block bp)).trans bp
  replace hk := hk.later HB
  replace hB := below_then hB HB
  clear HB
  refine (X2.out w4 hk).mono ?_
  rintro e w5 ⟨rfl, hF⟩
  clear cbf0 cbf1 cbf2 cbf3 cbf4 cbx0 cbx1 cbx2 cbx3 cbx4 cbp0 cbp1
  replace bf := (hF.block _ (size_of_block bf)).trans bf
  replace bx := (hF.block _ (size_of_block bx)).trans bx
  replace bp := (hF.block _ (size_of_block bp)).trans bp
  replace bn := (hF.block _ (size_of_block bn)).trans bn
  replace hk := hk.later hF
  replace hB := below_then hB hF
  clear hF
  have cz0 := Joins.cell_of_block (heap_alloc_new w5 (.cells #[.int .i64 R2.lo, .int .i64 R2.hi, .int .i64 R2.low, .int .i64 R2.high] 38)) 0
  have cz1 := Joins.cell_of_block (heap_alloc_new w5 (.cells #[.int .i64 R2.lo, .int .i64 R2.hi, .int .i64 R2.low, .int .i64 R2.high] 38)) 1
  have cz2 := Joins.cell_of_block (heap_alloc_new w5 (.cells #[.int .i64 R2.lo, .int .i64 R2.hi, .int .i64 R2.low, .int .i64 R2.high] 38)) 2
  have cz3 := Joins.cell_of_block (heap_alloc_new w5 (.cells #[.int .i64 R2.lo, .int .i64 R2.hi, .int .i64 R2.low, .int .i64 R2.high] 38)) 3
  have bt := heap_alloc_new w5 (.cells #[.int .i64 R2.lo, .int .i64 R2.hi, .int .i64 R2.low, .int .i64 R2.high] 38)
  have HB := below_alloc w5 (.cells #[.int .i64 R2.lo, .int .i64 R2.hi, .int .i64 R2.low, .int .i64 R2.high] 38)
  have cbf0 := Joins.cell_of_block ((HB.block _ (size_of_block bf)).trans bf) 0
  have cbf1 := Joins.cell_of_block ((HB.block _ (size_of_block bf)).trans bf) 1
  have cbf2 := Joins.cell_of_block ((HB.block _ (size_of_block bf)).trans bf) 2
  have cbf3 := Joins.cell_of_block ((HB.block _ (size_of_block bf)).trans bf) 3
  have cbf4 := Joins.cell_of_block ((HB.block _ (size_of_block bf)).trans bf) 4
  have cbx0 := Joins.cell_of_block ((HB.block _ (size_of_block bx)).trans bx) 0
  have cbx1 := Joins.cell_of_block ((HB.block _ (size_of_block bx)).trans bx) 1
  have cbx2 := Joins.cell_of_block ((HB.block _ (size_of_block bx)).trans bx) 2
  have cbx3 := Joins.cell_of_block ((HB.block _ (size_of_block bx)).trans bx) 3
  have cbx4 := Joins.cell_of_block ((HB.block _ (size_of_block bx)).trans bx) 4
  have cbn0 := Joins.cell_of_block ((HB.block _ (size_of_block bn)).trans bn) 0
  have cbn1 := Joins.cell_of_block ((HB.block _ (size_of_block bn)).trans bn) 1
  have cbn2 := Joins.cell_of_block ((HB.block _ (size_of_block bn)).trans bn) 2
  have cbn3 := Joins.cell_of_block ((HB.block _ (size_of_block bn)).trans bn) 3
  go_wp2_with fail
  generalize (w5.alloc (.cells #[.int .i64 R2.lo, .int .i64 R2.hi, .int .i64 R2.low, .int .i64 R2.high] 38)) = w6 at bt HB cbf0 cbf1 cbf2 cbf3 cbf4 cbx0 cbx1 cbx2 cbx3 cbx4 cbn0 cbn1 cbn2 cbn3 ⊢
  replace bf := (HB.block _ (size_of_block bf)).trans bf
  replace bx := (HB.block _ (size_of_block bx)).trans bx
  replace bp := (HB.block _ (size_of_block bp)).trans bp
  replace bn := (HB.block _ (size_of_block bn)).trans bn
  replace hk := hk.later HB
  replace hB := below_then hB HB
  clear HB
  clear cz0 cz1 cz2 cz3
  refine (X3.out w6 hk).mono ?_
  rintro e w7 ⟨rfl, hF⟩
  clear cbf0 cbf1 cbf2 cbf3 cbf4 cbx0 cbx1 cbx2 cbx3 cbx4 cbn0 cbn1 cbn2 cbn3
  replace bf := (hF.block _ (size_of_block bf)).trans bf
  replace bx := (hF.block _ (size_of_block bx)).trans bx
  replace bp := (hF.block _ (size_of_block bp)).trans bp
  replace bn := (hF.block _ (size_of_block bn)).trans bn
  replace bt := (hF.block _ (size_of_block bt)).trans bt
  replace hk := hk.later hF
  replace hB := below_then hB hF
  clear hF
  clear bt
  have bo := heap_alloc_new w7 (.cells #[.int .i64 R3.lo, .int .i64 R3.hi, .int .i64 R3.low, .int .i64 R3.high] 38)
  have HB := below_alloc w7 (.cells #[.int .i64 R3.lo, .int .i64 R3.hi, .int .i64 R3.low, .int .i64 R3.high] 38)
  have cbf0 := Joins.cell_of_block ((HB.block _ (size_of_block bf)).trans bf) 0
  have cbf1 := Joins.cell_of_block ((HB.block _ (size_of_block bf)).trans bf) 1
  have cbf2 := Joins.cell_of_block ((HB.block _ (size_of_block bf)).trans bf) 2
  have cbf3 := Joins.cell_of_block ((HB.block _ (size_of_block bf)).trans bf) 3
  have cbf4 := Joins.cell_of_block ((HB.block _ (size_of_block bf)).trans bf) 4
  have cbp0 := Joins.cell_of_block ((HB.block _ (size_of_block bp)).trans bp) 0
  have cbp1 := Joins.cell_of_block ((HB.block _ (size_of_block bp)).trans bp) 1
  go_wp2_with fail
  generalize (w7.alloc (.cells #[.int .i64 R3.lo, .int .i64 R3.hi, .int .i64 R3.low, .int .i64 R3.high] 38)) = w8 at bo HB cbf0 cbf1 cbf2 cbf3 cbf4 cbp0 cbp1 ⊢
  replace bf := (HB.block _ (size_of_block bf)).trans bf
  replace bx := (HB.block _ (size_of_block bx)).trans bx
  replace bp := (HB.block _ (size_of_block bp)).trans bp
  replace bn := (HB.block _ (size_of_block bn)).trans bn
  replace hk := hk.later HB
  replace hB := below_then hB HB
  clear HB
  clear bo
  refine (X5.out w8 hk).mono ?_
  rintro e w9 ⟨s1, rfl, hs1, hF⟩
  clear cbf0 cbf1 cbf2 cbf3 cbf4 cbp0 cbp1
  replace bf := (hF.block _ (size_of_block bf)).trans bf
  replace bx := (hF.block _ (size_of_block bx)).trans bx
  replace bp := (hF.block _ (size_of_block bp)).trans bp
  replace bn := (hF.block _ (size_of_block bn)).trans bn
  replace hk := hk.later hF
  replace hB := below_then hB hF
  clear hF
  have hs := Ints.of_own hs1 (by have := HN.out; omega)
  clear hs1
  obtain ⟨As, caps, rfl, -, -⟩ := hs.open_
  have hi := builtL nC_len w9 [id] 3 #[.int .i64 id] w9.heap.size 1 rfl (by simp) rfl rfl
  have cbf0 := Joins.cell_of_block bf 0
  have cbf1 := Joins.cell_of_block bf 1
  have cbf2 := Joins.cell_of_block bf 2
  have cbf3 := Joins.cell_of_block bf 3
  have cbf4 := Joins.cell_of_block bf 4
  have HB := below_alloc w9 (.cells #[.int .i64 id] 3)
  have n0 := Joins.cell_of_block ((HB.block _ (size_of_block bf)).trans bf) 0
  have n1 := Joins.cell_of_block ((HB.block _ (size_of_block bf)).trans bf) 1
  have n2 := Joins.cell_of_block ((HB.block _ (size_of_block bf)).trans bf) 2
  have n3 := Joins.cell_of_block ((HB.block _ (size_of_block bf)).trans bf) 3
  have n4 := Joins.cell_of_block ((HB.block _ (size_of_block bf)).trans bf) 4
  go_wp2_with fail
  clear cbf0 cbf1 cbf2 cbf3 cbf4
  generalize w9.alloc (.cells #[.int .i64 id] 3) = w10 at hi HB n0 n1 n2 n3 n4 ⊢
  replace bf := (HB.block _ (size_of_block bf)).trans bf
  replace bx := (HB.block _ (size_of_block bx)).trans bx
  replace bp := (HB.block _ (size_of_block bp)).trans bp
  replace bn := (HB.block _ (size_of_block bn)).trans bn
  replace hk := hk.later HB
  replace hs := hs.later HB
  replace hB := below_then hB HB
  clear HB
  refine (X6.out w10 _ hk hi).mono ?_
  rintro e w11 ⟨lv, rfl, hlv, hF⟩
  clear n0 n1 n2 n3 n4
  replace bf := (hF.block _ (size_of_block bf)).trans bf
  replace bx := (hF.block _ (size_of_block bx)).trans bx
  replace bp := (hF.block _ (size_of_block bp)).trans bp
  replace bn := (hF.block _ (size_of_block bn)).trans bn
  replace hk := hk.later hF
  replace hs := hs.later hF
  replace hB := below_then hB hF
  clear hF hi
  have hf9 : ∃ (A : Option Addr) (n c : Nat), lv = .slice A n c := by
    obtain ⟨A, c, h⟩ := Sl.form hlv; exact ⟨_, _, _, h⟩
  obtain ⟨Al, nl, capl, rfl⟩ := hf9
  replace hlv : Sl lkC 5 w11 w11.heap.size (.slice Al nl capl) M := hlv
  have cz0 := Joins.cell_of_block (heap_alloc_new w11 (.cells #[.int .i64 f.rise, .int .i64 f.fall, .int .i64 f.up, .int .i64 f.down, .slice Al nl capl] 24)) 0
  have cz1 := Joins.cell_of_block (heap_alloc_new w11 (.cells #[.int .i64 f.rise, .int .i64 f.fall, .int .i64 f.up, .int .i64 f.down, .slice Al nl capl] 24)) 1
  have cz2 := Joins.cell_of_block (heap_alloc_new w11 (.cells #[.int .i64 f.rise, .int .i64 f.fall, .int .i64 f.up, .int .i64 f.down, .slice Al nl capl] 24)) 2
  have cz3 := Joins.cell_of_block (heap_alloc_new w11 (.cells #[.int .i64 f.rise, .int .i64 f.fall, .int .i64 f.up, .int .i64 f.down, .slice Al nl capl] 24)) 3
  have cz4 := Joins.cell_of_block (heap_alloc_new w11 (.cells #[.int .i64 f.rise, .int .i64 f.fall, .int .i64 f.up, .int .i64 f.down, .slice Al nl capl] 24)) 4
  have bl := heap_alloc_new w11 (.cells #[.int .i64 f.rise, .int .i64 f.fall, .int .i64 f.up, .int .i64 f.down, .slice Al nl capl] 24)
  have HB := below_alloc w11 (.cells #[.int .i64 f.rise, .int .i64 f.fall, .int .i64 f.up, .int .i64 f.down, .slice Al nl capl] 24)
  have cbp0 := Joins.cell_of_block ((HB.block _ (size_of_block bp)).trans bp) 0
  have cbp1 := Joins.cell_of_block ((HB.block _ (size_of_block bp)).trans bp) 1
  go_wp2_with fail
  generalize (w11.alloc (.cells #[.int .i64 f.rise, .int .i64 f.fall, .int .i64 f.up, .int .i64 f.down, .slice Al nl capl] 24)) = w12 at bl HB cbp0 cbp1 ⊢
  replace bf := (HB.block _ (size_of_block bf)).trans bf
  replace bx := (HB.block _ (size_of_block bx)).trans bx
  replace bp := (HB.block _ (size_of_block bp)).trans bp
  replace bn := (HB.block _ (size_of_block bn)).trans bn
  replace hk := hk.later HB
  replace hs := hs.later HB
  replace hlv := hlv.later HB
  replace hB := below_then hB HB
  clear HB
  clear cz0 cz1 cz2 cz3 cz4
  refine (X7.out w12 _ hlv).mono ?_
  rintro e w13 ⟨rfl, hF⟩
  clear cbp0 cbp1
  replace bf := (hF.block _ (size_of_block bf)).trans bf
  replace bx := (hF.block _ (size_of_block bx)).trans bx
  replace bp := (hF.block _ (size_of_block bp)).trans bp
  replace bn := (hF.block _ (size_of_block bn)).trans bn
  replace bl := (hF.block _ (size_of_block bl)).trans bl
  replace hk := hk.later hF
  replace hs := hs.later hF
  replace hlv := hlv.later hF
  replace hB := below_then hB hF
  clear hF
  clear bl
  have bb := heap_alloc_new w13 (.cells #[.int .i64 R5.lo, .int .i64 R5.hi, .int .i64 R5.low, .int .i64 R5.high] 38)
  have HB := below_alloc w13 (.cells #[.int .i64 R5.lo, .int .i64 R5.hi, .int .i64 R5.low, .int .i64 R5.high] 38)
  go_wp2_with fail
  generalize (w13.alloc (.cells #[.int .i64 R5.lo, .int .i64 R5.hi, .int .i64 R5.low, .int .i64 R5.high] 38)) = w14 at bb HB  ⊢
  replace bf := (HB.block _ (size_of_block bf)).trans bf
  replace bx := (HB.block _ (size_of_block bx)).trans bx
  replace bp := (HB.block _ (size_of_block bp)).trans bp
  replace bn := (HB.block _ (size_of_block bn)).trans bn
  replace hk := hk.later HB
  replace hs := hs.later HB
  replace hlv := hlv.later HB
  replace hB := below_then hB HB
  clear HB
  obtain ⟨AS, capS, hEq, -, -, hat⟩ := Ints.open_ hs
  cases hEq
  have HAT := Lib.hid hat
  clear hat
  have h24 := HN.out
  go_loopw [24, 25] (fun b i wr => ∃ j : Nat, j ≤ L.length ∧ i = .int .i64 j ∧ b = .bool ((L.take j).contains id) ∧ wr = w14) (fun _ i _ => L.length - (intOf i).toNat)
  case atStart => exact ⟨0, Nat.zero_le _, rfl, rfl, rfl⟩
  case round =>
    obtain ⟨j, hj, rfl, rfl, rfl⟩ := hrel
    by_cases hlt : j < L.length
    · obtain ⟨b9, off, x9, rfl, hb9, hx, d0⟩ := HAT.out j hlt
      have ht := Lib.hid (take_has hx id)
      clear hx
      cases hin : (L.take j).contains id with
      | true =>
        go_wp2_with fail
        go_roundw
        case rel => exact ⟨j + 1, by omega, by go_num, by rw [ht.out, hin]; rfl, trivial⟩
        case measure => simp [intOf]; omega
      | false =>
        go_wp2_with fail
        go_roundw
        case rel => exact ⟨j + 1, by omega, by go_num, by rw [ht.out, hin]; rfl, trivial⟩
        case measure => simp [intOf]; omega
    · obtain rfl : j = L.length := by omega
      rw [List.take_length]
      clear HAT
      go_wp2_with fail
      refine (sanity_c wr).mono ?_
      rintro e w15 ⟨rfl, hF⟩
      replace bf := (hF.block _ (size_of_block bf)).trans bf
      replace bx := (hF.block _ (size_of_block bx)).trans bx
      replace bp := (hF.block _ (size_of_block bp)).trans bp
      replace bn := (hF.block _ (size_of_block bn)).trans bn
      replace bb := (hF.block _ (size_of_block bb)).trans bb
      replace hk := hk.later hF
      replace hs := hs.later hF
      replace hlv := hlv.later hF
      replace hB := below_then hB hF
      clear hF
      have cbb0 := Joins.cell_of_block bb 0
      have cbb1 := Joins.cell_of_block bb 1
      have cbn0 := Joins.cell_of_block bn 0
      have cbn1 := Joins.cell_of_block bn 1
      go_wp2_with fail
      go_ret
      exact ⟨rfl, hB⟩
set_option maxRecDepth 100000 in
set_option maxHeartbeats 4000000 in
theorem FireMore_g2 (f : Fi) (A : Option Addr) (cap : Nat) (x : Lk) (p : Spt) (id : Int) (w : World) (hk : Lks w w.heap.size (.slice A f.ls.length cap) f.ls) (hfew : fewB f.ls.length = true) {R1 R5 : Bnd} (hK : MorK f x p id R1 R5) (hE : endsE f p = 0) (hlen : (restsR f p).length ≤ 24) (hG : wouldE f x p = 0) (hH : endsE f x.at_ = 0) (hI : wouldE f ⟨x.id, x.foot, x.hour, (endsR f x.at_).lo, (endsR f x.at_).hi⟩ p = 0 ∧ (wouldR f ⟨x.id, x.foot, x.hour, (endsR f x.at_).lo, (endsR f x.at_).hi⟩ p).lo = R1.lo ∧ (wouldR f ⟨x.id, x.foot, x.hour, (endsR f x.at_).lo, (endsR f x.at_).hi⟩ p).hi = R1.hi) : Calls Try.prog 5 #[fiV f (.slice A f.ls.length cap), lkV x, sV p, .int .i64 id] w fun e w' => e = .returned (.bool true) ∧ Below w.heap.size w w' := by
  have x1 := fun W h => Ends_c f (.slice A f.ls.length cap) p W h
  rw [hK.now, hE] at x1
  have x2 := fun W h => Would_c f (.slice A f.ls.length cap) x p W h
  obtain ⟨R2, hR2⟩ : ∃ e, e = wouldR f x p := ⟨_, rfl⟩
  rw [← hR2] at x2
  have hm := hK.more hG
  rw [← hR2] at hm
  rw [hG] at x2
  have d2 : decide (R2.lo < R1.lo) = false := decide_eq_false (by omega)
  have d3 : decide (R1.hi < R2.hi) = false := decide_eq_false (by omega)
  clear hm
  clear hG hR2
  have x3 := fun W h => Ends_c f (.slice A f.ls.length cap) x.at_ W h
  obtain ⟨R3, hR3⟩ : ∃ e, e = endsR f x.at_ := ⟨_, rfl⟩
  rw [← hR3] at x3
  rw [← hR3] at hI
  rw [hH] at x3
  clear hH hR3
  have x4 := fun W h => Would_c f (.slice A f.ls.length cap) ⟨x.id, x.foot, x.hour, R3.lo, R3.hi⟩ p W h
  obtain ⟨⟨r0, r1, r2, r3⟩, hR4⟩ : ∃ e, e = wouldR f ⟨x.id, x.foot, x.hour, R3.lo, R3.hi⟩ p := ⟨_, rfl⟩
  rw [← hR4] at x4 hI
  clear hR4
  obtain ⟨hI1, hI2, hI3⟩ := hI
  rw [hI1] at x4
  clear hI1
  obtain rfl : r0 = R1.lo := hI2
  obtain rfl : r1 = R1.hi := hI3
  have hne := fun W => Try.neSp R1.lo R1.hi R1.lo R1.hi W
  simp only [beq_self_eq_true, Bool.and_self, Bool.not_true] at hne
  unfold lkV bndV at x4
  simp only at x4
  have x5 := fun W h => Rests_c f (.slice A f.ls.length cap) p W h
  rw [hE] at x5
  have hrs := hK.rests
  obtain ⟨L, hL⟩ : ∃ e, e = restsR f p := ⟨_, rfl⟩
  rw [← hL] at x5 hrs hlen
  clear hL hE
  have x6 := fun W vi h hi => Without_c f (.slice A f.ls.length cap) vi [id] W h hi
  rw [hK.way, hK.fire] at x6
  have x7 := fun W v h => Ends_c (withF f (butL f.ls [id])) v p W h
  rw [hK.less, hK.then_] at x7
  clear hK
  generalize butL f.ls [id] = M at x6 x7
  have hnb := fun W => Try.neSp R5.lo R5.hi R1.lo R1.hi W
  rw [← hrs] at hnb
  clear hrs
  unfold bndV at x1 x2 x3 x7
  dsimp only [fiV, withF] at x6
  have HN := Lib.hid hlen
  clear hlen
  have X1 := Lib.hid x1
  have X2 := Lib.hid x2
  have X3 := Lib.hid x3
  have X5 := Lib.hid x5
  have X6 := Lib.hid x6
  have X7 := Lib.hid x7
  have X4 := Lib.hid x4
  clear x1 x2 x3 x5 x6 x7 x4
  have HK := Lib.hid hk
  clear hk
  unfold fiV lkV sV
  go_enter Try.func5, Try.ntmps5
  obtain ⟨bf, bx, bp, -, HB⟩ := three_new w (.cells #[.int .i64 f.rise, .int .i64 f.fall, .int .i64 f.up, .int .i64 f.down, .slice A f.ls.length cap] 24) (.cells #[.int .i64 x.id, .int .i64 x.foot, .int .i64 x.hour, .int .i64 x.lo, .int .i64 x.hi] 55) (.cells #[.int .i64 p.foot, .int .i64 p.hour] 42)
  go_wp2_with fail
  generalize (((w.alloc (.cells #[.int .i64 f.rise, .int .i64 f.fall, .int .i64 f.up, .int .i64 f.down, .slice A f.ls.length cap] 24)).alloc (.cells #[.int .i64 x.id, .int .i64 x.foot, .int .i64 x.hour, .int .i64 x.lo, .int .i64 x.hi] 55)).alloc (.cells #[.int .i64 p.foot, .int .i64 p.hour] 42)) = w1 at bf bx bp HB  ⊢
  have hB := HB
  clear HB
  have hk := HK.out.later hB
  refine (few_c f A f.ls.length cap _).mono ?_
  rintro e w2 ⟨rfl, hF⟩
  replace bf := (hF.block _ (size_of_block bf)).trans bf
  replace bx := (hF.block _ (size_of_block bx)).trans bx
  replace bp := (hF.block _ (size_of_block bp)).trans bp
  replace hk := hk.later hF
  replace hB := below_then hB hF
  clear hF
  rw [hfew]
  have cbf0 := Joins.cell_of_block bf 0
  have cbf1 := Joins.cell_of_block bf 1
  have cbf2 := Joins.cell_of_block bf 2
  have cbf3 := Joins.cell_of_block bf 3
  have cbf4 := Joins.cell_of_block bf 4
  have cbp0 := Joins.cell_of_block bp 0
  have cbp1 := Joins.cell_of_block bp 1
  go_wp2_with fail
  refine (X1.out w2 hk).mono ?_
  rintro e w3 ⟨rfl, hF⟩
  clear cbf0 cbf1 cbf2 cbf3 cbf4 cbp0 cbp1
  replace bf := (hF.block _ (size_of_block bf)).trans bf
  replace bx := (hF.block _ (size_of_block bx)).trans bx
  replace bp := (hF.block _ (size_of_block bp)).trans bp
  replace hk := hk.later hF
  replace hB := below_then hB hF
  clear hF
  have bn := heap_alloc_new w3 (.cells #[.int .i64 R1.lo, .int .i64 R1.hi, .int .i64 R1.low, .int .i64 R1.high] 38)
  have HB := below_alloc w3 (.cells #[.int .i64 R1.lo, .int .i64 R1.hi, .int .i64 R1.low, .int .i64 R1.high] 38)
  have cbf0 := Joins.cell_of_block ((HB.block _ (size_of_block bf)).trans bf) 0
  have cbf1 := Joins.cell_of_block ((HB.block _ (size_of_block bf)).trans bf) 1
  have cbf2 := Joins.cell_of_block ((HB.block _ (size_of_block bf)).trans bf) 2
  have cbf3 := Joins.cell_of_block ((HB.block _ (size_of_block bf)).trans bf) 3
  have cbf4 := Joins.cell_of_block ((HB.block _ (size_of_block bf)).trans bf) 4
  have cbx0 := Joins.cell_of_block ((HB.block _ (size_of_block bx)).trans bx) 0
  have cbx1 := Joins.cell_of_block ((HB.block _ (size_of_block bx)).trans bx) 1
  have cbx2 := Joins.cell_of_block ((HB.block _ (size_of_block bx)).trans bx) 2
  have cbx3 := Joins.cell_of_block ((HB.block _ (size_of_block bx)).trans bx) 3
  have cbx4 := Joins.cell_of_block ((HB.block _ (size_of_block bx)).trans bx) 4
  have cbp0 := Joins.cell_of_block ((HB.block _ (size_of_block bp)).trans bp) 0
  have cbp1 := Joins.cell_of_block ((HB.block _ (size_of_block bp)).trans bp) 1
  go_wp2_with fail
  generalize (w3.alloc (.cells #[.int .i64 R1.lo, .int .i64 R1.hi, .int .i64 R1.low, .int .i64 R1.high] 38)) = w4 at bn HB cbf0 cbf1 cbf2 cbf3 cbf4 cbx0 cbx1 cbx2 cbx3 cbx4 cbp0 cbp1 ⊢
  replace bf := (HB.block _ (size_of_block bf)).trans bf
  replace bx := (HB.block _ (size_of_block bx)).trans bx
  replace bp := (HB.block _ (size_of_block bp)).trans bp
  replace hk := hk.later HB
  replace hB := below_then hB HB
  clear HB
  refine (X2.out w4 hk).mono ?_
  rintro e w5 ⟨rfl, hF⟩
  clear cbf0 cbf1 cbf2 cbf3 cbf4 cbx0 cbx1 cbx2 cbx3 cbx4 cbp0 cbp1
  replace bf := (hF.block _ (size_of_block bf)).trans bf
  replace bx := (hF.block _ (size_of_block bx)).trans bx
  replace bp := (hF.block _ (size_of_block bp)).trans bp
  replace bn := (hF.block _ (size_of_block bn)).trans bn
  replace hk := hk.later hF
  replace hB := below_then hB hF
  clear hF
  have cz0 := Joins.cell_of_block (heap_alloc_new w5 (.cells #[.int .i64 R2.lo, .int .i64 R2.hi, .int .i64 R2.low, .int .i64 R2.high] 38)) 0
  have cz1 := Joins.cell_of_block (heap_alloc_new w5 (.cells #[.int .i64 R2.lo, .int .i64 R2.hi, .int .i64 R2.low, .int .i64 R2.high] 38)) 1
  have cz2 := Joins.cell_of_block (heap_alloc_new w5 (.cells #[.int .i64 R2.lo, .int .i64 R2.hi, .int .i64 R2.low, .int .i64 R2.high] 38)) 2
  have cz3 := Joins.cell_of_block (heap_alloc_new w5 (.cells #[.int .i64 R2.lo, .int .i64 R2.hi, .int .i64 R2.low, .int .i64 R2.high] 38)) 3
  have bt := heap_alloc_new w5 (.cells #[.int .i64 R2.lo, .int .i64 R2.hi, .int .i64 R2.low, .int .i64 R2.high] 38)
  have HB := below_alloc w5 (.cells #[.int .i64 R2.lo, .int .i64 R2.hi, .int .i64 R2.low, .int .i64 R2.high] 38)
  have cbf0 := Joins.cell_of_block ((HB.block _ (size_of_block bf)).trans bf) 0
  have cbf1 := Joins.cell_of_block ((HB.block _ (size_of_block bf)).trans bf) 1
  have cbf2 := Joins.cell_of_block ((HB.block _ (size_of_block bf)).trans bf) 2
  have cbf3 := Joins.cell_of_block ((HB.block _ (size_of_block bf)).trans bf) 3
  have cbf4 := Joins.cell_of_block ((HB.block _ (size_of_block bf)).trans bf) 4
  have cbx0 := Joins.cell_of_block ((HB.block _ (size_of_block bx)).trans bx) 0
  have cbx1 := Joins.cell_of_block ((HB.block _ (size_of_block bx)).trans bx) 1
  have cbx2 := Joins.cell_of_block ((HB.block _ (size_of_block bx)).trans bx) 2
  have cbx3 := Joins.cell_of_block ((HB.block _ (size_of_block bx)).trans bx) 3
  have cbx4 := Joins.cell_of_block ((HB.block _ (size_of_block bx)).trans bx) 4
  have cbn0 := Joins.cell_of_block ((HB.block _ (size_of_block bn)).trans bn) 0
  have cbn1 := Joins.cell_of_block ((HB.block _ (size_of_block bn)).trans bn) 1
  have cbn2 := Joins.cell_of_block ((HB.block _ (size_of_block bn)).trans bn) 2
  have cbn3 := Joins.cell_of_block ((HB.block _ (size_of_block bn)).trans bn) 3
  go_wp2_with fail
  generalize (w5.alloc (.cells #[.int .i64 R2.lo, .int .i64 R2.hi, .int .i64 R2.low, .int .i64 R2.high] 38)) = w6 at bt HB cbf0 cbf1 cbf2 cbf3 cbf4 cbx0 cbx1 cbx2 cbx3 cbx4 cbn0 cbn1 cbn2 cbn3 ⊢
  replace bf := (HB.block _ (size_of_block bf)).trans bf
  replace bx := (HB.block _ (size_of_block bx)).trans bx
  replace bp := (HB.block _ (size_of_block bp)).trans bp
  replace bn := (HB.block _ (size_of_block bn)).trans bn
  replace hk := hk.later HB
  replace hB := below_then hB HB
  clear HB
  clear cz0 cz1 cz2 cz3
  refine (X3.out w6 hk).mono ?_
  rintro e w7 ⟨rfl, hF⟩
  clear cbf0 cbf1 cbf2 cbf3 cbf4 cbx0 cbx1 cbx2 cbx3 cbx4 cbn0 cbn1 cbn2 cbn3
  replace bf := (hF.block _ (size_of_block bf)).trans bf
  replace bx := (hF.block _ (size_of_block bx)).trans bx
  replace bp := (hF.block _ (size_of_block bp)).trans bp
  replace bn := (hF.block _ (size_of_block bn)).trans bn
  replace bt := (hF.block _ (size_of_block bt)).trans bt
  replace hk := hk.later hF
  replace hB := below_then hB hF
  clear hF
  clear bt
  obtain ⟨bo, -, -, -⟩ := two_new' w7 (.cells #[.int .i64 R3.lo, .int .i64 R3.hi, .int .i64 R3.low, .int .i64 R3.high] 38) (.cells #[.int .i64 x.id, .int .i64 x.foot, .int .i64 x.hour, .int .i64 x.lo, .int .i64 x.hi] 55)
  have HA := below_alloc w7 (.cells #[.int .i64 R3.lo, .int .i64 R3.hi, .int .i64 R3.low, .int .i64 R3.high] 38)
  obtain ⟨-, ys, -, HB⟩ := two_new' w7 (.cells #[.int .i64 R3.lo, .int .i64 R3.hi, .int .i64 R3.low, .int .i64 R3.high] 38) (.cells #[.int .i64 x.id, .int .i64 x.foot, .int .i64 x.hour, .int .i64 R3.lo, .int .i64 R3.hi] 55)
  have ca0 := Joins.cell_of_block ((HA.block _ (size_of_block bx)).trans bx) 0
  have ca1 := Joins.cell_of_block ((HA.block _ (size_of_block bx)).trans bx) 1
  have ca2 := Joins.cell_of_block ((HA.block _ (size_of_block bx)).trans bx) 2
  have ca3 := Joins.cell_of_block ((HA.block _ (size_of_block bx)).trans bx) 3
  have ca4 := Joins.cell_of_block ((HA.block _ (size_of_block bx)).trans bx) 4
  have cb0 := Joins.cell_of_block bo 0
  have cb1 := Joins.cell_of_block bo 1
  have cc0 := Joins.cell_of_block (heap_alloc_new w7 (.cells #[.int .i64 R3.lo, .int .i64 R3.hi, .int .i64 R3.low, .int .i64 R3.high] 38)) 0
  have cc1 := Joins.cell_of_block (heap_alloc_new w7 (.cells #[.int .i64 R3.lo, .int .i64 R3.hi, .int .i64 R3.low, .int .i64 R3.high] 38)) 1
  have cdbf0 := Joins.cell_of_block ((HB.block _ (size_of_block bf)).trans bf) 0
  have cdbf1 := Joins.cell_of_block ((HB.block _ (size_of_block bf)).trans bf) 1
  have cdbf2 := Joins.cell_of_block ((HB.block _ (size_of_block bf)).trans bf) 2
  have cdbf3 := Joins.cell_of_block ((HB.block _ (size_of_block bf)).trans bf) 3
  have cdbf4 := Joins.cell_of_block ((HB.block _ (size_of_block bf)).trans bf) 4
  have cdbp0 := Joins.cell_of_block ((HB.block _ (size_of_block bp)).trans bp) 0
  have cdbp1 := Joins.cell_of_block ((HB.block _ (size_of_block bp)).trans bp) 1
  have ce0 := Joins.cell_of_block ys 0
  have ce1 := Joins.cell_of_block ys 1
  have ce2 := Joins.cell_of_block ys 2
  have ce3 := Joins.cell_of_block ys 3
  have ce4 := Joins.cell_of_block ys 4
  go_wp2_with fail
  clear HA bo ca0 ca1 ca2 ca3 ca4 cb0 cb1 cc0 cc1
  generalize ((w7.alloc (.cells #[.int .i64 R3.lo, .int .i64 R3.hi, .int .i64 R3.low, .int .i64 R3.high] 38)).alloc (.cells #[.int .i64 x.id, .int .i64 x.foot, .int .i64 x.hour, .int .i64 R3.lo, .int .i64 R3.hi] 55)) = w8 at ys HB cdbf0 cdbf1 cdbf2 cdbf3 cdbf4 cdbp0 cdbp1 ce0 ce1 ce2 ce3 ce4 ⊢
  clear ys
  replace bf := (HB.block _ (size_of_block bf)).trans bf
  replace bx := (HB.block _ (size_of_block bx)).trans bx
  replace bp := (HB.block _ (size_of_block bp)).trans bp
  replace bn := (HB.block _ (size_of_block bn)).trans bn
  replace hk := hk.later HB
  replace hB := below_then hB HB
  clear HB
  refine (X4.out w8 hk).mono ?_
  rintro e w9 ⟨rfl, hF⟩
  clear cdbf0 cdbf1 cdbf2 cdbf3 cdbf4 cdbp0 cdbp1 ce0 ce1 ce2 ce3 ce4
  replace bf := (hF.block _ (size_of_block bf)).trans bf
  replace bx := (hF.block _ (size_of_block bx)).trans bx
  replace bp := (hF.block _ (size_of_block bp)).trans bp
  replace bn := (hF.block _ (size_of_block bn)).trans bn
  replace hk := hk.later hF
  replace hB := below_then hB hF
  clear hF
  have cz0 := Joins.cell_of_block (heap_alloc_new w9 (.cells #[.int .i64 R1.lo, .int .i64 R1.hi, .int .i64 r2, .int .i64 r3] 38)) 0
  have cz1 := Joins.cell_of_block (heap_alloc_new w9 (.cells #[.int .i64 R1.lo, .int .i64 R1.hi, .int .i64 r2, .int .i64 r3] 38)) 1
  have bs := heap_alloc_new w9 (.cells #[.int .i64 R1.lo, .int .i64 R1.hi, .int .i64 r2, .int .i64 r3] 38)
  have HB := below_alloc w9 (.cells #[.int .i64 R1.lo, .int .i64 R1.hi, .int .i64 r2, .int .i64 r3] 38)
  have cbf0 := Joins.cell_of_block ((HB.block _ (size_of_block bf)).trans bf) 0
  have cbf1 := Joins.cell_of_block ((HB.block _ (size_of_block bf)).trans bf) 1
  have cbf2 := Joins.cell_of_block ((HB.block _ (size_of_block bf)).trans bf) 2
  have cbf3 := Joins.cell_of_block ((HB.block _ (size_of_block bf)).trans bf) 3
  have cbf4 := Joins.cell_of_block ((HB.block _ (size_of_block bf)).trans bf) 4
  have cbp0 := Joins.cell_of_block ((HB.block _ (size_of_block bp)).trans bp) 0
  have cbp1 := Joins.cell_of_block ((HB.block _ (size_of_block bp)).trans bp) 1
  have cbn0 := Joins.cell_of_block ((HB.block _ (size_of_block bn)).trans bn) 0
  have cbn1 := Joins.cell_of_block ((HB.block _ (size_of_block bn)).trans bn) 1
  have cbn2 := Joins.cell_of_block ((HB.block _ (size_of_block bn)).trans bn) 2
  have cbn3 := Joins.cell_of_block ((HB.block _ (size_of_block bn)).trans bn) 3
  go_wp2_with fail
  generalize (w9.alloc (.cells #[.int .i64 R1.lo, .int .i64 R1.hi, .int .i64 r2, .int .i64 r3] 38)) = w10 at bs HB cbf0 cbf1 cbf2 cbf3 cbf4 cbp0 cbp1 cbn0 cbn1 cbn2 cbn3 ⊢
  replace bf := (HB.block _ (size_of_block bf)).trans bf
  replace bx := (HB.block _ (size_of_block bx)).trans bx
  replace bp := (HB.block _ (size_of_block bp)).trans bp
  replace bn := (HB.block _ (size_of_block bn)).trans bn
  replace hk := hk.later HB
  replace hB := below_then hB HB
  clear HB
  clear cz0 cz1
  clear bs
  clear hne
  refine (X5.out w10 hk).mono ?_
  rintro e w11 ⟨s1, rfl, hs1, hF⟩
  clear cbf0 cbf1 cbf2 cbf3 cbf4 cbp0 cbp1 cbn0 cbn1 cbn2 cbn3
  replace bf := (hF.block _ (size_of_block bf)).trans bf
  replace bx := (hF.block _ (size_of_block bx)).trans bx
  replace bp := (hF.block _ (size_of_block bp)).trans bp
  replace bn := (hF.block _ (size_of_block bn)).trans bn
  replace hk := hk.later hF
  replace hB := below_then hB hF
  clear hF
  have hs := Ints.of_own hs1 (by have := HN.out; omega)
  clear hs1
  obtain ⟨As, caps, rfl, -, -⟩ := hs.open_
  have hi := builtL nC_len w11 [id] 3 #[.int .i64 id] w11.heap.size 1 rfl (by simp) rfl rfl
  have cbf0 := Joins.cell_of_block bf 0
  have cbf1 := Joins.cell_of_block bf 1
  have cbf2 := Joins.cell_of_block bf 2
  have cbf3 := Joins.cell_of_block bf 3
  have cbf4 := Joins.cell_of_block bf 4
  have HB := below_alloc w11 (.cells #[.int .i64 id] 3)
  have n0 := Joins.cell_of_block ((HB.block _ (size_of_block bf)).trans bf) 0
  have n1 := Joins.cell_of_block ((HB.block _ (size_of_block bf)).trans bf) 1
  have n2 := Joins.cell_of_block ((HB.block _ (size_of_block bf)).trans bf) 2
  have n3 := Joins.cell_of_block ((HB.block _ (size_of_block bf)).trans bf) 3
  have n4 := Joins.cell_of_block ((HB.block _ (size_of_block bf)).trans bf) 4
  go_wp2_with fail
  clear cbf0 cbf1 cbf2 cbf3 cbf4
  generalize w11.alloc (.cells #[.int .i64 id] 3) = w12 at hi HB n0 n1 n2 n3 n4 ⊢
  replace bf := (HB.block _ (size_of_block bf)).trans bf
  replace bx := (HB.block _ (size_of_block bx)).trans bx
  replace bp := (HB.block _ (size_of_block bp)).trans bp
  replace bn := (HB.block _ (size_of_block bn)).trans bn
  replace hk := hk.later HB
  replace hs := hs.later HB
  replace hB := below_then hB HB
  clear HB
  refine (X6.out w12 _ hk hi).mono ?_
  rintro e w13 ⟨lv, rfl, hlv, hF⟩
  clear n0 n1 n2 n3 n4
  replace bf := (hF.block _ (size_of_block bf)).trans bf
  replace bx := (hF.block _ (size_of_block bx)).trans bx
  replace bp := (hF.block _ (size_of_block bp)).trans bp
  replace bn := (hF.block _ (size_of_block bn)).trans bn
  replace hk := hk.later hF
  replace hs := hs.later hF
  replace hB := below_then hB hF
  clear hF hi
  have hf9 : ∃ (A : Option Addr) (n c : Nat), lv = .slice A n c := by
    obtain ⟨A, c, h⟩ := Sl.form hlv; exact ⟨_, _, _, h⟩
  obtain ⟨Al, nl, capl, rfl⟩ := hf9
  replace hlv : Sl lkC 5 w13 w13.heap.size (.slice Al nl capl) M := hlv
  have cz0 := Joins.cell_of_block (heap_alloc_new w13 (.cells #[.int .i64 f.rise, .int .i64 f.fall, .int .i64 f.up, .int .i64 f.down, .slice Al nl capl] 24)) 0
  have cz1 := Joins.cell_of_block (heap_alloc_new w13 (.cells #[.int .i64 f.rise, .int .i64 f.fall, .int .i64 f.up, .int .i64 f.down, .slice Al nl capl] 24)) 1
  have cz2 := Joins.cell_of_block (heap_alloc_new w13 (.cells #[.int .i64 f.rise, .int .i64 f.fall, .int .i64 f.up, .int .i64 f.down, .slice Al nl capl] 24)) 2
  have cz3 := Joins.cell_of_block (heap_alloc_new w13 (.cells #[.int .i64 f.rise, .int .i64 f.fall, .int .i64 f.up, .int .i64 f.down, .slice Al nl capl] 24)) 3
  have cz4 := Joins.cell_of_block (heap_alloc_new w13 (.cells #[.int .i64 f.rise, .int .i64 f.fall, .int .i64 f.up, .int .i64 f.down, .slice Al nl capl] 24)) 4
  have bl := heap_alloc_new w13 (.cells #[.int .i64 f.rise, .int .i64 f.fall, .int .i64 f.up, .int .i64 f.down, .slice Al nl capl] 24)
  have HB := below_alloc w13 (.cells #[.int .i64 f.rise, .int .i64 f.fall, .int .i64 f.up, .int .i64 f.down, .slice Al nl capl] 24)
  have cbp0 := Joins.cell_of_block ((HB.block _ (size_of_block bp)).trans bp) 0
  have cbp1 := Joins.cell_of_block ((HB.block _ (size_of_block bp)).trans bp) 1
  go_wp2_with fail
  generalize (w13.alloc (.cells #[.int .i64 f.rise, .int .i64 f.fall, .int .i64 f.up, .int .i64 f.down, .slice Al nl capl] 24)) = w14 at bl HB cbp0 cbp1 ⊢
  replace bf := (HB.block _ (size_of_block bf)).trans bf
  replace bx := (HB.block _ (size_of_block bx)).trans bx
  replace bp := (HB.block _ (size_of_block bp)).trans bp
  replace bn := (HB.block _ (size_of_block bn)).trans bn
  replace hk := hk.later HB
  replace hs := hs.later HB
  replace hlv := hlv.later HB
  replace hB := below_then hB HB
  clear HB
  clear cz0 cz1 cz2 cz3 cz4
  refine (X7.out w14 _ hlv).mono ?_
  rintro e w15 ⟨rfl, hF⟩
  clear cbp0 cbp1
  replace bf := (hF.block _ (size_of_block bf)).trans bf
  replace bx := (hF.block _ (size_of_block bx)).trans bx
  replace bp := (hF.block _ (size_of_block bp)).trans bp
  replace bn := (hF.block _ (size_of_block bn)).trans bn
  replace bl := (hF.block _ (size_of_block bl)).trans bl
  replace hk := hk.later hF
  replace hs := hs.later hF
  replace hlv := hlv.later hF
  replace hB := below_then hB hF
  clear hF
  clear bl
  have bb := heap_alloc_new w15 (.cells #[.int .i64 R5.lo, .int .i64 R5.hi, .int .i64 R5.low, .int .i64 R5.high] 38)
  have HB := below_alloc w15 (.cells #[.int .i64 R5.lo, .int .i64 R5.hi, .int .i64 R5.low, .int .i64 R5.high] 38)
  go_wp2_with fail
  generalize (w15.alloc (.cells #[.int .i64 R5.lo, .int .i64 R5.hi, .int .i64 R5.low, .int .i64 R5.high] 38)) = w16 at bb HB  ⊢
  replace bf := (HB.block _ (size_of_block bf)).trans bf
  replace bx := (HB.block _ (size_of_block bx)).trans bx
  replace bp := (HB.block _ (size_of_block bp)).trans bp
  replace bn := (HB.block _ (size_of_block bn)).trans bn
  replace hk := hk.later HB
  replace hs := hs.later HB
  replace hlv := hlv.later HB
  replace hB := below_then hB HB
  clear HB
  obtain ⟨AS, capS, hEq, -, -, hat⟩ := Ints.open_ hs
  cases hEq
  have HAT := Lib.hid hat
  clear hat
  have h24 := HN.out
  go_loopw [24, 25] (fun b i wr => ∃ j : Nat, j ≤ L.length ∧ i = .int .i64 j ∧ b = .bool ((L.take j).contains id) ∧ wr = w16) (fun _ i _ => L.length - (intOf i).toNat)
  case atStart => exact ⟨0, Nat.zero_le _, rfl, rfl, rfl⟩
  case round =>
    obtain ⟨j, hj, rfl, rfl, rfl⟩ := hrel
    by_cases hlt : j < L.length
    · obtain ⟨b9, off, x9, rfl, hb9, hx, d0⟩ := HAT.out j hlt
      have ht := Lib.hid (take_has hx id)
      clear hx
      cases hin : (L.take j).contains id with
      | true =>
        go_wp2_with fail
        go_roundw
        case rel => exact ⟨j + 1, by omega, by go_num, by rw [ht.out, hin]; rfl, trivial⟩
        case measure => simp [intOf]; omega
      | false =>
        go_wp2_with fail
        go_roundw
        case rel => exact ⟨j + 1, by omega, by go_num, by rw [ht.out, hin]; rfl, trivial⟩
        case measure => simp [intOf]; omega
    · obtain rfl : j = L.length := by omega
      rw [List.take_length]
      clear HAT
      go_wp2_with fail
      refine (sanity_c wr).mono ?_
      rintro e w17 ⟨rfl, hF⟩
      replace bf := (hF.block _ (size_of_block bf)).trans bf
      replace bx := (hF.block _ (size_of_block bx)).trans bx
      replace bp := (hF.block _ (size_of_block bp)).trans bp
      replace bn := (hF.block _ (size_of_block bn)).trans bn
      replace bb := (hF.block _ (size_of_block bb)).trans bb
      replace hk := hk.later hF
      replace hs := hs.later hF
      replace hlv := hlv.later hF
      replace hB := below_then hB hF
      clear hF
      have cbb0 := Joins.cell_of_block bb 0
      have cbb1 := Joins.cell_of_block bb 1
      have cbn0 := Joins.cell_of_block bn 0
      have cbn1 := Joins.cell_of_block bn 1
      go_wp2_with fail
      go_ret
      exact ⟨rfl, hB⟩
set_option maxRecDepth 100000 in
set_option maxHeartbeats 4000000 in
theorem FireMore_g3 (f : Fi) (A : Option Addr) (cap : Nat) (x : Lk) (p : Spt) (id : Int) (w : World) (hk : Lks w w.heap.size (.slice A f.ls.length cap) f.ls) (hfew : fewB f.ls.length = true) {R1 R5 : Bnd} (hK : MorK f x p id R1 R5) (hE : endsE f p = 0) (hlen : (restsR f p).length ≤ 24) (hG : wouldE f x p = 0) (hH : endsE f x.at_ = 0) (hI : wouldE f ⟨x.id, x.foot, x.hour, (endsR f x.at_).lo, (endsR f x.at_).hi⟩ p ≠ 0 ∧ wouldE f ⟨x.id, x.foot, x.hour, (endsR f x.at_).lo, (endsR f x.at_).hi⟩ p ≠ 9) : Calls Try.prog 5 #[fiV f (.slice A f.ls.length cap), lkV x, sV p, .int .i64 id] w fun e w' => e = .returned (.bool true) ∧ Below w.heap.size w w' := by
  have x1 := fun W h => Ends_c f (.slice A f.ls.length cap) p W h
  rw [hK.now, hE] at x1
  have x2 := fun W h => Would_c f (.slice A f.ls.length cap) x p W h
  obtain ⟨R2, hR2⟩ : ∃ e, e = wouldR f x p := ⟨_, rfl⟩
  rw [← hR2] at x2
  have hm := hK.more hG
  rw [← hR2] at hm
  rw [hG] at x2
  have d2 : decide (R2.lo < R1.lo) = false := decide_eq_false (by omega)
  have d3 : decide (R1.hi < R2.hi) = false := decide_eq_false (by omega)
  clear hm
  clear hG hR2
  have x3 := fun W h => Ends_c f (.slice A f.ls.length cap) x.at_ W h
  obtain ⟨R3, hR3⟩ : ∃ e, e = endsR f x.at_ := ⟨_, rfl⟩
  rw [← hR3] at x3
  rw [← hR3] at hI
  rw [hH] at x3
  clear hH hR3
  have x4 := fun W h => Would_c f (.slice A f.ls.length cap) ⟨x.id, x.foot, x.hour, R3.lo, R3.hi⟩ p W h
  obtain ⟨⟨r0, r1, r2, r3⟩, hR4⟩ : ∃ e, e = wouldR f ⟨x.id, x.foot, x.hour, R3.lo, R3.hi⟩ p := ⟨_, rfl⟩
  rw [← hR4] at x4
  clear hR4
  obtain ⟨I, hI2⟩ : ∃ e, e = wouldE f ⟨x.id, x.foot, x.hour, R3.lo, R3.hi⟩ p := ⟨_, rfl⟩
  rw [← hI2] at x4 hI
  clear hI2
  have d5 : (I == 0) = false := by simpa using hI.1
  have d6 : (I == 9) = false := by simpa using hI.2
  clear hI
  unfold lkV bndV at x4
  simp only at x4
  have x5 := fun W h => Rests_c f (.slice A f.ls.length cap) p W h
  rw [hE] at x5
  have hrs := hK.rests
  obtain ⟨L, hL⟩ : ∃ e, e = restsR f p := ⟨_, rfl⟩
  rw [← hL] at x5 hrs hlen
  clear hL hE
  have x6 := fun W vi h hi => Without_c f (.slice A f.ls.length cap) vi [id] W h hi
  rw [hK.way, hK.fire] at x6
  have x7 := fun W v h => Ends_c (withF f (butL f.ls [id])) v p W h
  rw [hK.less, hK.then_] at x7
  clear hK
  generalize butL f.ls [id] = M at x6 x7
  have hnb := fun W => Try.neSp R5.lo R5.hi R1.lo R1.hi W
  rw [← hrs] at hnb
  clear hrs
  unfold bndV at x1 x2 x3 x7
  dsimp only [fiV, withF] at x6
  have HN := Lib.hid hlen
  clear hlen
  have X1 := Lib.hid x1
  have X2 := Lib.hid x2
  have X3 := Lib.hid x3
  have X5 := Lib.hid x5
  have X6 := Lib.hid x6
  have X7 := Lib.hid x7
  have X4 := Lib.hid x4
  clear x1 x2 x3 x5 x6 x7 x4
  have HK := Lib.hid hk
  clear hk
  unfold fiV lkV sV
  go_enter Try.func5, Try.ntmps5
  obtain ⟨bf, bx, bp, -, HB⟩ := three_new w (.cells #[.int .i64 f.rise, .int .i64 f.fall, .int .i64 f.up, .int .i64 f.down, .slice A f.ls.length cap] 24) (.cells #[.int .i64 x.id, .int .i64 x.foot, .int .i64 x.hour, .int .i64 x.lo, .int .i64 x.hi] 55) (.cells #[.int .i64 p.foot, .int .i64 p.hour] 42)
  go_wp2_with fail
  generalize (((w.alloc (.cells #[.int .i64 f.rise, .int .i64 f.fall, .int .i64 f.up, .int .i64 f.down, .slice A f.ls.length cap] 24)).alloc (.cells #[.int .i64 x.id, .int .i64 x.foot, .int .i64 x.hour, .int .i64 x.lo, .int .i64 x.hi] 55)).alloc (.cells #[.int .i64 p.foot, .int .i64 p.hour] 42)) = w1 at bf bx bp HB  ⊢
  have hB := HB
  clear HB
  have hk := HK.out.later hB
  refine (few_c f A f.ls.length cap _).mono ?_
  rintro e w2 ⟨rfl, hF⟩
  replace bf := (hF.block _ (size_of_block bf)).trans bf
  replace bx := (hF.block _ (size_of_block bx)).trans bx
  replace bp := (hF.block _ (size_of_block bp)).trans bp
  replace hk := hk.later hF
  replace hB := below_then hB hF
  clear hF
  rw [hfew]
  have cbf0 := Joins.cell_of_block bf 0
  have cbf1 := Joins.cell_of_block bf 1
  have cbf2 := Joins.cell_of_block bf 2
  have cbf3 := Joins.cell_of_block bf 3
  have cbf4 := Joins.cell_of_block bf 4
  have cbp0 := Joins.cell_of_block bp 0
  have cbp1 := Joins.cell_of_block bp 1
  go_wp2_with fail
  refine (X1.out w2 hk).mono ?_
  rintro e w3 ⟨rfl, hF⟩
  clear cbf0 cbf1 cbf2 cbf3 cbf4 cbp0 cbp1
  replace bf := (hF.block _ (size_of_block bf)).trans bf
  replace bx := (hF.block _ (size_of_block bx)).trans bx
  replace bp := (hF.block _ (size_of_block bp)).trans bp
  replace hk := hk.later hF
  replace hB := below_then hB hF
  clear hF
  have bn := heap_alloc_new w3 (.cells #[.int .i64 R1.lo, .int .i64 R1.hi, .int .i64 R1.low, .int .i64 R1.high] 38)
  have HB := below_alloc w3 (.cells #[.int .i64 R1.lo, .int .i64 R1.hi, .int .i64 R1.low, .int .i64 R1.high] 38)
  have cbf0 := Joins.cell_of_block ((HB.block _ (size_of_block bf)).trans bf) 0
  have cbf1 := Joins.cell_of_block ((HB.block _ (size_of_block bf)).trans bf) 1
  have cbf2 := Joins.cell_of_block ((HB.block _ (size_of_block bf)).trans bf) 2
  have cbf3 := Joins.cell_of_block ((HB.block _ (size_of_block bf)).trans bf) 3
  have cbf4 := Joins.cell_of_block ((HB.block _ (size_of_block bf)).trans bf) 4
  have cbx0 := Joins.cell_of_block ((HB.block _ (size_of_block bx)).trans bx) 0
  have cbx1 := Joins.cell_of_block ((HB.block _ (size_of_block bx)).trans bx) 1
  have cbx2 := Joins.cell_of_block ((HB.block _ (size_of_block bx)).trans bx) 2
  have cbx3 := Joins.cell_of_block ((HB.block _ (size_of_block bx)).trans bx) 3
  have cbx4 := Joins.cell_of_block ((HB.block _ (size_of_block bx)).trans bx) 4
  have cbp0 := Joins.cell_of_block ((HB.block _ (size_of_block bp)).trans bp) 0
  have cbp1 := Joins.cell_of_block ((HB.block _ (size_of_block bp)).trans bp) 1
  go_wp2_with fail
  generalize (w3.alloc (.cells #[.int .i64 R1.lo, .int .i64 R1.hi, .int .i64 R1.low, .int .i64 R1.high] 38)) = w4 at bn HB cbf0 cbf1 cbf2 cbf3 cbf4 cbx0 cbx1 cbx2 cbx3 cbx4 cbp0 cbp1 ⊢
  replace bf := (HB.block _ (size_of_block bf)).trans bf
  replace bx := (HB.block _ (size_of_block bx)).trans bx
  replace bp := (HB.block _ (size_of_block bp)).trans bp
  replace hk := hk.later HB
  replace hB := below_then hB HB
  clear HB
  refine (X2.out w4 hk).mono ?_
  rintro e w5 ⟨rfl, hF⟩
  clear cbf0 cbf1 cbf2 cbf3 cbf4 cbx0 cbx1 cbx2 cbx3 cbx4 cbp0 cbp1
  replace bf := (hF.block _ (size_of_block bf)).trans bf
  replace bx := (hF.block _ (size_of_block bx)).trans bx
  replace bp := (hF.block _ (size_of_block bp)).trans bp
  replace bn := (hF.block _ (size_of_block bn)).trans bn
  replace hk := hk.later hF
  replace hB := below_then hB hF
  clear hF
  have cz0 := Joins.cell_of_block (heap_alloc_new w5 (.cells #[.int .i64 R2.lo, .int .i64 R2.hi, .int .i64 R2.low, .int .i64 R2.high] 38)) 0
  have cz1 := Joins.cell_of_block (heap_alloc_new w5 (.cells #[.int .i64 R2.lo, .int .i64 R2.hi, .int .i64 R2.low, .int .i64 R2.high] 38)) 1
  have cz2 := Joins.cell_of_block (heap_alloc_new w5 (.cells #[.int .i64 R2.lo, .int .i64 R2.hi, .int .i64 R2.low, .int .i64 R2.high] 38)) 2
  have cz3 := Joins.cell_of_block (heap_alloc_new w5 (.cells #[.int .i64 R2.lo, .int .i64 R2.hi, .int .i64 R2.low, .int .i64 R2.high] 38)) 3
  have bt := heap_alloc_new w5 (.cells #[.int .i64 R2.lo, .int .i64 R2.hi, .int .i64 R2.low, .int .i64 R2.high] 38)
  have HB := below_alloc w5 (.cells #[.int .i64 R2.lo, .int .i64 R2.hi, .int .i64 R2.low, .int .i64 R2.high] 38)
  have cbf0 := Joins.cell_of_block ((HB.block _ (size_of_block bf)).trans bf) 0
  have cbf1 := Joins.cell_of_block ((HB.block _ (size_of_block bf)).trans bf) 1
  have cbf2 := Joins.cell_of_block ((HB.block _ (size_of_block bf)).trans bf) 2
  have cbf3 := Joins.cell_of_block ((HB.block _ (size_of_block bf)).trans bf) 3
  have cbf4 := Joins.cell_of_block ((HB.block _ (size_of_block bf)).trans bf) 4
  have cbx0 := Joins.cell_of_block ((HB.block _ (size_of_block bx)).trans bx) 0
  have cbx1 := Joins.cell_of_block ((HB.block _ (size_of_block bx)).trans bx) 1
  have cbx2 := Joins.cell_of_block ((HB.block _ (size_of_block bx)).trans bx) 2
  have cbx3 := Joins.cell_of_block ((HB.block _ (size_of_block bx)).trans bx) 3
  have cbx4 := Joins.cell_of_block ((HB.block _ (size_of_block bx)).trans bx) 4
  have cbn0 := Joins.cell_of_block ((HB.block _ (size_of_block bn)).trans bn) 0
  have cbn1 := Joins.cell_of_block ((HB.block _ (size_of_block bn)).trans bn) 1
  have cbn2 := Joins.cell_of_block ((HB.block _ (size_of_block bn)).trans bn) 2
  have cbn3 := Joins.cell_of_block ((HB.block _ (size_of_block bn)).trans bn) 3
  go_wp2_with fail
  generalize (w5.alloc (.cells #[.int .i64 R2.lo, .int .i64 R2.hi, .int .i64 R2.low, .int .i64 R2.high] 38)) = w6 at bt HB cbf0 cbf1 cbf2 cbf3 cbf4 cbx0 cbx1 cbx2 cbx3 cbx4 cbn0 cbn1 cbn2 cbn3 ⊢
  replace bf := (HB.block _ (size_of_block bf)).trans bf
  replace bx := (HB.block _ (size_of_block bx)).trans bx
  replace bp := (HB.block _ (size_of_block bp)).trans bp
  replace bn := (HB.block _ (size_of_block bn)).trans bn
  replace hk := hk.later HB
  replace hB := below_then hB HB
  clear HB
  clear cz0 cz1 cz2 cz3
  refine (X3.out w6 hk).mono ?_
  rintro e w7 ⟨rfl, hF⟩
  clear cbf0 cbf1 cbf2 cbf3 cbf4 cbx0 cbx1 cbx2 cbx3 cbx4 cbn0 cbn1 cbn2 cbn3
  replace bf := (hF.block _ (size_of_block bf)).trans bf
  replace bx := (hF.block _ (size_of_block bx)).trans bx
  replace bp := (hF.block _ (size_of_block bp)).trans bp
  replace bn := (hF.block _ (size_of_block bn)).trans bn
  replace bt := (hF.block _ (size_of_block bt)).trans bt
  replace hk := hk.later hF
  replace hB := below_then hB hF
  clear hF
  clear bt
  obtain ⟨bo, -, -, -⟩ := two_new' w7 (.cells #[.int .i64 R3.lo, .int .i64 R3.hi, .int .i64 R3.low, .int .i64 R3.high] 38) (.cells #[.int .i64 x.id, .int .i64 x.foot, .int .i64 x.hour, .int .i64 x.lo, .int .i64 x.hi] 55)
  have HA := below_alloc w7 (.cells #[.int .i64 R3.lo, .int .i64 R3.hi, .int .i64 R3.low, .int .i64 R3.high] 38)
  obtain ⟨-, ys, -, HB⟩ := two_new' w7 (.cells #[.int .i64 R3.lo, .int .i64 R3.hi, .int .i64 R3.low, .int .i64 R3.high] 38) (.cells #[.int .i64 x.id, .int .i64 x.foot, .int .i64 x.hour, .int .i64 R3.lo, .int .i64 R3.hi] 55)
  have ca0 := Joins.cell_of_block ((HA.block _ (size_of_block bx)).trans bx) 0
  have ca1 := Joins.cell_of_block ((HA.block _ (size_of_block bx)).trans bx) 1
  have ca2 := Joins.cell_of_block ((HA.block _ (size_of_block bx)).trans bx) 2
  have ca3 := Joins.cell_of_block ((HA.block _ (size_of_block bx)).trans bx) 3
  have ca4 := Joins.cell_of_block ((HA.block _ (size_of_block bx)).trans bx) 4
  have cb0 := Joins.cell_of_block bo 0
  have cb1 := Joins.cell_of_block bo 1
  have cc0 := Joins.cell_of_block (heap_alloc_new w7 (.cells #[.int .i64 R3.lo, .int .i64 R3.hi, .int .i64 R3.low, .int .i64 R3.high] 38)) 0
  have cc1 := Joins.cell_of_block (heap_alloc_new w7 (.cells #[.int .i64 R3.lo, .int .i64 R3.hi, .int .i64 R3.low, .int .i64 R3.high] 38)) 1
  have cdbf0 := Joins.cell_of_block ((HB.block _ (size_of_block bf)).trans bf) 0
  have cdbf1 := Joins.cell_of_block ((HB.block _ (size_of_block bf)).trans bf) 1
  have cdbf2 := Joins.cell_of_block ((HB.block _ (size_of_block bf)).trans bf) 2
  have cdbf3 := Joins.cell_of_block ((HB.block _ (size_of_block bf)).trans bf) 3
  have cdbf4 := Joins.cell_of_block ((HB.block _ (size_of_block bf)).trans bf) 4
  have cdbp0 := Joins.cell_of_block ((HB.block _ (size_of_block bp)).trans bp) 0
  have cdbp1 := Joins.cell_of_block ((HB.block _ (size_of_block bp)).trans bp) 1
  have ce0 := Joins.cell_of_block ys 0
  have ce1 := Joins.cell_of_block ys 1
  have ce2 := Joins.cell_of_block ys 2
  have ce3 := Joins.cell_of_block ys 3
  have ce4 := Joins.cell_of_block ys 4
  go_wp2_with fail
  clear HA bo ca0 ca1 ca2 ca3 ca4 cb0 cb1 cc0 cc1
  generalize ((w7.alloc (.cells #[.int .i64 R3.lo, .int .i64 R3.hi, .int .i64 R3.low, .int .i64 R3.high] 38)).alloc (.cells #[.int .i64 x.id, .int .i64 x.foot, .int .i64 x.hour, .int .i64 R3.lo, .int .i64 R3.hi] 55)) = w8 at ys HB cdbf0 cdbf1 cdbf2 cdbf3 cdbf4 cdbp0 cdbp1 ce0 ce1 ce2 ce3 ce4 ⊢
  clear ys
  replace bf := (HB.block _ (size_of_block bf)).trans bf
  replace bx := (HB.block _ (size_of_block bx)).trans bx
  replace bp := (HB.block _ (size_of_block bp)).trans bp
  replace bn := (HB.block _ (size_of_block bn)).trans bn
  replace hk := hk.later HB
  replace hB := below_then hB HB
  clear HB
  refine (X4.out w8 hk).mono ?_
  rintro e w9 ⟨rfl, hF⟩
  clear cdbf0 cdbf1 cdbf2 cdbf3 cdbf4 cdbp0 cdbp1 ce0 ce1 ce2 ce3 ce4
  replace bf := (hF.block _ (size_of_block bf)).trans bf
  replace bx := (hF.block _ (size_of_block bx)).trans bx
  replace bp := (hF.block _ (size_of_block bp)).trans bp
  replace bn := (hF.block _ (size_of_block bn)).trans bn
  replace hk := hk.later hF
  replace hB := below_then hB hF
  clear hF
  have bs := heap_alloc_new w9 (.cells #[.int .i64 r0, .int .i64 r1, .int .i64 r2, .int .i64 r3] 38)
  have HB := below_alloc w9 (.cells #[.int .i64 r0, .int .i64 r1, .int .i64 r2, .int .i64 r3] 38)
  have cbf0 := Joins.cell_of_block ((HB.block _ (size_of_block bf)).trans bf) 0
  have cbf1 := Joins.cell_of_block ((HB.block _ (size_of_block bf)).trans bf) 1
  have cbf2 := Joins.cell_of_block ((HB.block _ (size_of_block bf)).trans bf) 2
  have cbf3 := Joins.cell_of_block ((HB.block _ (size_of_block bf)).trans bf) 3
  have cbf4 := Joins.cell_of_block ((HB.block _ (size_of_block bf)).trans bf) 4
  have cbp0 := Joins.cell_of_block ((HB.block _ (size_of_block bp)).trans bp) 0
  have cbp1 := Joins.cell_of_block ((HB.block _ (size_of_block bp)).trans bp) 1
  go_wp2_with fail
  generalize (w9.alloc (.cells #[.int .i64 r0, .int .i64 r1, .int .i64 r2, .int .i64 r3] 38)) = w10 at bs HB cbf0 cbf1 cbf2 cbf3 cbf4 cbp0 cbp1 ⊢
  replace bf := (HB.block _ (size_of_block bf)).trans bf
  replace bx := (HB.block _ (size_of_block bx)).trans bx
  replace bp := (HB.block _ (size_of_block bp)).trans bp
  replace bn := (HB.block _ (size_of_block bn)).trans bn
  replace hk := hk.later HB
  replace hB := below_then hB HB
  clear HB
  clear bs
  refine (X5.out w10 hk).mono ?_
  rintro e w11 ⟨s1, rfl, hs1, hF⟩
  clear cbf0 cbf1 cbf2 cbf3 cbf4 cbp0 cbp1
  replace bf := (hF.block _ (size_of_block bf)).trans bf
  replace bx := (hF.block _ (size_of_block bx)).trans bx
  replace bp := (hF.block _ (size_of_block bp)).trans bp
  replace bn := (hF.block _ (size_of_block bn)).trans bn
  replace hk := hk.later hF
  replace hB := below_then hB hF
  clear hF
  have hs := Ints.of_own hs1 (by have := HN.out; omega)
  clear hs1
  obtain ⟨As, caps, rfl, -, -⟩ := hs.open_
  have hi := builtL nC_len w11 [id] 3 #[.int .i64 id] w11.heap.size 1 rfl (by simp) rfl rfl
  have cbf0 := Joins.cell_of_block bf 0
  have cbf1 := Joins.cell_of_block bf 1
  have cbf2 := Joins.cell_of_block bf 2
  have cbf3 := Joins.cell_of_block bf 3
  have cbf4 := Joins.cell_of_block bf 4
  have HB := below_alloc w11 (.cells #[.int .i64 id] 3)
  have n0 := Joins.cell_of_block ((HB.block _ (size_of_block bf)).trans bf) 0
  have n1 := Joins.cell_of_block ((HB.block _ (size_of_block bf)).trans bf) 1
  have n2 := Joins.cell_of_block ((HB.block _ (size_of_block bf)).trans bf) 2
  have n3 := Joins.cell_of_block ((HB.block _ (size_of_block bf)).trans bf) 3
  have n4 := Joins.cell_of_block ((HB.block _ (size_of_block bf)).trans bf) 4
  go_wp2_with fail
  clear cbf0 cbf1 cbf2 cbf3 cbf4
  generalize w11.alloc (.cells #[.int .i64 id] 3) = w12 at hi HB n0 n1 n2 n3 n4 ⊢
  replace bf := (HB.block _ (size_of_block bf)).trans bf
  replace bx := (HB.block _ (size_of_block bx)).trans bx
  replace bp := (HB.block _ (size_of_block bp)).trans bp
  replace bn := (HB.block _ (size_of_block bn)).trans bn
  replace hk := hk.later HB
  replace hs := hs.later HB
  replace hB := below_then hB HB
  clear HB
  refine (X6.out w12 _ hk hi).mono ?_
  rintro e w13 ⟨lv, rfl, hlv, hF⟩
  clear n0 n1 n2 n3 n4
  replace bf := (hF.block _ (size_of_block bf)).trans bf
  replace bx := (hF.block _ (size_of_block bx)).trans bx
  replace bp := (hF.block _ (size_of_block bp)).trans bp
  replace bn := (hF.block _ (size_of_block bn)).trans bn
  replace hk := hk.later hF
  replace hs := hs.later hF
  replace hB := below_then hB hF
  clear hF hi
  have hf9 : ∃ (A : Option Addr) (n c : Nat), lv = .slice A n c := by
    obtain ⟨A, c, h⟩ := Sl.form hlv; exact ⟨_, _, _, h⟩
  obtain ⟨Al, nl, capl, rfl⟩ := hf9
  replace hlv : Sl lkC 5 w13 w13.heap.size (.slice Al nl capl) M := hlv
  have cz0 := Joins.cell_of_block (heap_alloc_new w13 (.cells #[.int .i64 f.rise, .int .i64 f.fall, .int .i64 f.up, .int .i64 f.down, .slice Al nl capl] 24)) 0
  have cz1 := Joins.cell_of_block (heap_alloc_new w13 (.cells #[.int .i64 f.rise, .int .i64 f.fall, .int .i64 f.up, .int .i64 f.down, .slice Al nl capl] 24)) 1
  have cz2 := Joins.cell_of_block (heap_alloc_new w13 (.cells #[.int .i64 f.rise, .int .i64 f.fall, .int .i64 f.up, .int .i64 f.down, .slice Al nl capl] 24)) 2
  have cz3 := Joins.cell_of_block (heap_alloc_new w13 (.cells #[.int .i64 f.rise, .int .i64 f.fall, .int .i64 f.up, .int .i64 f.down, .slice Al nl capl] 24)) 3
  have cz4 := Joins.cell_of_block (heap_alloc_new w13 (.cells #[.int .i64 f.rise, .int .i64 f.fall, .int .i64 f.up, .int .i64 f.down, .slice Al nl capl] 24)) 4
  have bl := heap_alloc_new w13 (.cells #[.int .i64 f.rise, .int .i64 f.fall, .int .i64 f.up, .int .i64 f.down, .slice Al nl capl] 24)
  have HB := below_alloc w13 (.cells #[.int .i64 f.rise, .int .i64 f.fall, .int .i64 f.up, .int .i64 f.down, .slice Al nl capl] 24)
  have cbp0 := Joins.cell_of_block ((HB.block _ (size_of_block bp)).trans bp) 0
  have cbp1 := Joins.cell_of_block ((HB.block _ (size_of_block bp)).trans bp) 1
  go_wp2_with fail
  generalize (w13.alloc (.cells #[.int .i64 f.rise, .int .i64 f.fall, .int .i64 f.up, .int .i64 f.down, .slice Al nl capl] 24)) = w14 at bl HB cbp0 cbp1 ⊢
  replace bf := (HB.block _ (size_of_block bf)).trans bf
  replace bx := (HB.block _ (size_of_block bx)).trans bx
  replace bp := (HB.block _ (size_of_block bp)).trans bp
  replace bn := (HB.block _ (size_of_block bn)).trans bn
  replace hk := hk.later HB
  replace hs := hs.later HB
  replace hlv := hlv.later HB
  replace hB := below_then hB HB
  clear HB
  clear cz0 cz1 cz2 cz3 cz4
  refine (X7.out w14 _ hlv).mono ?_
  rintro e w15 ⟨rfl, hF⟩
  clear cbp0 cbp1
  replace bf := (hF.block _ (size_of_block bf)).trans bf
  replace bx := (hF.block _ (size_of_block bx)).trans bx
  replace bp := (hF.block _ (size_of_block bp)).trans bp
  replace bn := (hF.block _ (size_of_block bn)).trans bn
  replace bl := (hF.block _ (size_of_block bl)).trans bl
  replace hk := hk.later hF
  replace hs := hs.later hF
  replace hlv := hlv.later hF
  replace hB := below_then hB hF
  clear hF
  clear bl
  have bb := heap_alloc_new w15 (.cells #[.int .i64 R5.lo, .int .i64 R5.hi, .int .i64 R5.low, .int .i64 R5.high] 38)
  have HB := below_alloc w15 (.cells #[.int .i64 R5.lo, .int .i64 R5.hi, .int .i64 R5.low, .int .i64 R5.high] 38)
  go_wp2_with fail
  generalize (w15.alloc (.cells #[.int .i64 R5.lo, .int .i64 R5.hi, .int .i64 R5.low, .int .i64 R5.high] 38)) = w16 at bb HB  ⊢
  replace bf := (HB.block _ (size_of_block bf)).trans bf
  replace bx := (HB.block _ (size_of_block bx)).trans bx
  replace bp := (HB.block _ (size_of_block bp)).trans bp
  replace bn := (HB.block _ (size_of_block bn)).trans bn
  replace hk := hk.later HB
  replace hs := hs.later HB
  replace hlv := hlv.later HB
  replace hB := below_then hB HB
  clear HB
  obtain ⟨AS, capS, hEq, -, -, hat⟩ := Ints.open_ hs
  cases hEq
  have HAT := Lib.hid hat
  clear hat
  have h24 := HN.out
  go_loopw [24, 25] (fun b i wr => ∃ j : Nat, j ≤ L.length ∧ i = .int .i64 j ∧ b = .bool ((L.take j).contains id) ∧ wr = w16) (fun _ i _ => L.length - (intOf i).toNat)
  case atStart => exact ⟨0, Nat.zero_le _, rfl, rfl, rfl⟩
  case round =>
    obtain ⟨j, hj, rfl, rfl, rfl⟩ := hrel
    by_cases hlt : j < L.length
    · obtain ⟨b9, off, x9, rfl, hb9, hx, d0⟩ := HAT.out j hlt
      have ht := Lib.hid (take_has hx id)
      clear hx
      cases hin : (L.take j).contains id with
      | true =>
        go_wp2_with fail
        go_roundw
        case rel => exact ⟨j + 1, by omega, by go_num, by rw [ht.out, hin]; rfl, trivial⟩
        case measure => simp [intOf]; omega
      | false =>
        go_wp2_with fail
        go_roundw
        case rel => exact ⟨j + 1, by omega, by go_num, by rw [ht.out, hin]; rfl, trivial⟩
        case measure => simp [intOf]; omega
    · obtain rfl : j = L.length := by omega
      rw [List.take_length]
      clear HAT
      go_wp2_with fail
      refine (sanity_c wr).mono ?_
      rintro e w17 ⟨rfl, hF⟩
      replace bf := (hF.block _ (size_of_block bf)).trans bf
      replace bx := (hF.block _ (size_of_block bx)).trans bx
      replace bp := (hF.block _ (size_of_block bp)).trans bp
      replace bn := (hF.block _ (size_of_block bn)).trans bn
      replace bb := (hF.block _ (size_of_block bb)).trans bb
      replace hk := hk.later hF
      replace hs := hs.later hF
      replace hlv := hlv.later hF
      replace hB := below_then hB hF
      clear hF
      have cbb0 := Joins.cell_of_block bb 0
      have cbb1 := Joins.cell_of_block bb 1
      have cbn0 := Joins.cell_of_block bn 0
      have cbn1 := Joins.cell_of_block bn 1
      go_wp2_with fail
      go_ret
      exact ⟨rfl, hB⟩
set_option maxRecDepth 100000 in
set_option maxHeartbeats 4000000 in
theorem FireMore_n1 (f : Fi) (A : Option Addr) (cap : Nat) (x : Lk) (p : Spt) (id : Int) (w : World) (hk : Lks w w.heap.size (.slice A f.ls.length cap) f.ls) (hfew : fewB f.ls.length = true) {R1 R5 : Bnd} (hK : MorK f x p id R1 R5) (hE : endsE f p = 0) (hlen : (restsR f p).length ≤ 24) (hG : wouldE f x p ≠ 0) (hH : endsE f x.at_ ≠ 0) : Calls Try.prog 5 #[fiV f (.slice A f.ls.length cap), lkV x, sV p, .int .i64 id] w fun e w' => e = .returned (.bool true) ∧ Below w.heap.size w w' := by
  have x1 := fun W h => Ends_c f (.slice A f.ls.length cap) p W h
  rw [hK.now, hE] at x1
  have x2 := fun W h => Would_c f (.slice A f.ls.length cap) x p W h
  obtain ⟨R2, hR2⟩ : ∃ e, e = wouldR f x p := ⟨_, rfl⟩
  rw [← hR2] at x2
  obtain ⟨G, hG2⟩ : ∃ e, e = wouldE f x p := ⟨_, rfl⟩
  rw [← hG2] at x2 hG
  have d2 : (G == 0) = false := by simpa using hG
  clear hG2
  clear hG hR2
  have x3 := fun W h => Ends_c f (.slice A f.ls.length cap) x.at_ W h
  obtain ⟨R3, hR3⟩ : ∃ e, e = endsR f x.at_ := ⟨_, rfl⟩
  rw [← hR3] at x3
  obtain ⟨H, hH2⟩ : ∃ e, e = endsE f x.at_ := ⟨_, rfl⟩
  rw [← hH2] at x3 hH
  have d4 : (H == 0) = false := by simpa using hH
  clear hH2 hH hR3
  have x5 := fun W h => Rests_c f (.slice A f.ls.length cap) p W h
  rw [hE] at x5
  have hrs := hK.rests
  obtain ⟨L, hL⟩ : ∃ e, e = restsR f p := ⟨_, rfl⟩
  rw [← hL] at x5 hrs hlen
  clear hL hE
  have x6 := fun W vi h hi => Without_c f (.slice A f.ls.length cap) vi [id] W h hi
  rw [hK.way, hK.fire] at x6
  have x7 := fun W v h => Ends_c (withF f (butL f.ls [id])) v p W h
  rw [hK.less, hK.then_] at x7
  clear hK
  generalize butL f.ls [id] = M at x6 x7
  have hnb := fun W => Try.neSp R5.lo R5.hi R1.lo R1.hi W
  rw [← hrs] at hnb
  clear hrs
  unfold bndV at x1 x2 x3 x7
  dsimp only [fiV, withF] at x6
  have HN := Lib.hid hlen
  clear hlen
  have X1 := Lib.hid x1
  have X2 := Lib.hid x2
  have X3 := Lib.hid x3
  have X5 := Lib.hid x5
  have X6 := Lib.hid x6
  have X7 := Lib.hid x7
  clear x1 x2 x3 x5 x6 x7
  have HK := Lib.hid hk
  clear hk
  unfold fiV lkV sV
  go_enter Try.func5, Try.ntmps5
  obtain ⟨bf, bx, bp, -, HB⟩ := three_new w (.cells #[.int .i64 f.rise, .int .i64 f.fall, .int .i64 f.up, .int .i64 f.down, .slice A f.ls.length cap] 24) (.cells #[.int .i64 x.id, .int .i64 x.foot, .int .i64 x.hour, .int .i64 x.lo, .int .i64 x.hi] 55) (.cells #[.int .i64 p.foot, .int .i64 p.hour] 42)
  go_wp2_with fail
  generalize (((w.alloc (.cells #[.int .i64 f.rise, .int .i64 f.fall, .int .i64 f.up, .int .i64 f.down, .slice A f.ls.length cap] 24)).alloc (.cells #[.int .i64 x.id, .int .i64 x.foot, .int .i64 x.hour, .int .i64 x.lo, .int .i64 x.hi] 55)).alloc (.cells #[.int .i64 p.foot, .int .i64 p.hour] 42)) = w1 at bf bx bp HB  ⊢
  have hB := HB
  clear HB
  have hk := HK.out.later hB
  refine (few_c f A f.ls.length cap _).mono ?_
  rintro e w2 ⟨rfl, hF⟩
  replace bf := (hF.block _ (size_of_block bf)).trans bf
  replace bx := (hF.block _ (size_of_block bx)).trans bx
  replace bp := (hF.block _ (size_of_block bp)).trans bp
  replace hk := hk.later hF
  replace hB := below_then hB hF
  clear hF
  rw [hfew]
  have cbf0 := Joins.cell_of_block bf 0
  have cbf1 := Joins.cell_of_block bf 1
  have cbf2 := Joins.cell_of_block bf 2
  have cbf3 := Joins.cell_of_block bf 3
  have cbf4 := Joins.cell_of_block bf 4
  have cbp0 := Joins.cell_of_block bp 0
  have cbp1 := Joins.cell_of_block bp 1
  go_wp2_with fail
  refine (X1.out w2 hk).mono ?_
  rintro e w3 ⟨rfl, hF⟩
  clear cbf0 cbf1 cbf2 cbf3 cbf4 cbp0 cbp1
  replace bf := (hF.block _ (size_of_block bf)).trans bf
  replace bx := (hF.block _ (size_of_block bx)).trans bx
  replace bp := (hF.block _ (size_of_block bp)).trans bp
  replace hk := hk.later hF
  replace hB := below_then hB hF
  clear hF
  have bn := heap_alloc_new w3 (.cells #[.int .i64 R1.lo, .int .i64 R1.hi, .int .i64 R1.low, .int .i64 R1.high] 38)
  have HB := below_alloc w3 (.cells #[.int .i64 R1.lo, .int .i64 R1.hi, .int .i64 R1.low, .int .i64 R1.high] 38)
  have cbf0 := Joins.cell_of_block ((HB.block _ (size_of_block bf)).trans bf) 0
  have cbf1 := Joins.cell_of_block ((HB.block _ (size_of_block bf)).trans bf) 1
  have cbf2 := Joins.cell_of_block ((HB.block _ (size_of_block bf)).trans bf) 2
  have cbf3 := Joins.cell_of_block ((HB.block _ (size_of_block bf)).trans bf) 3
  have cbf4 := Joins.cell_of_block ((HB.block _ (size_of_block bf)).trans bf) 4
  have cbx0 := Joins.cell_of_block ((HB.block _ (size_of_block bx)).trans bx) 0
  have cbx1 := Joins.cell_of_block ((HB.block _ (size_of_block bx)).trans bx) 1
  have cbx2 := Joins.cell_of_block ((HB.block _ (size_of_block bx)).trans bx) 2
  have cbx3 := Joins.cell_of_block ((HB.block _ (size_of_block bx)).trans bx) 3
  have cbx4 := Joins.cell_of_block ((HB.block _ (size_of_block bx)).trans bx) 4
  have cbp0 := Joins.cell_of_block ((HB.block _ (size_of_block bp)).trans bp) 0
  have cbp1 := Joins.cell_of_block ((HB.block _ (size_of_block bp)).trans bp) 1
  go_wp2_with fail
  generalize (w3.alloc (.cells #[.int .i64 R1.lo, .int .i64 R1.hi, .int .i64 R1.low, .int .i64 R1.high] 38)) = w4 at bn HB cbf0 cbf1 cbf2 cbf3 cbf4 cbx0 cbx1 cbx2 cbx3 cbx4 cbp0 cbp1 ⊢
  replace bf := (HB.block _ (size_of_block bf)).trans bf
  replace bx := (HB.block _ (size_of_block bx)).trans bx
  replace bp := (HB.block _ (size_of_block bp)).trans bp
  replace hk := hk.later HB
  replace hB := below_then hB HB
  clear HB
  refine (X2.out w4 hk).mono ?_
  rintro e w5 ⟨rfl, hF⟩
  clear cbf0 cbf1 cbf2 cbf3 cbf4 cbx0 cbx1 cbx2 cbx3 cbx4 cbp0 cbp1
  replace bf := (hF.block _ (size_of_block bf)).trans bf
  replace bx := (hF.block _ (size_of_block bx)).trans bx
  replace bp := (hF.block _ (size_of_block bp)).trans bp
  replace bn := (hF.block _ (size_of_block bn)).trans bn
  replace hk := hk.later hF
  replace hB := below_then hB hF
  clear hF
  have bt := heap_alloc_new w5 (.cells #[.int .i64 R2.lo, .int .i64 R2.hi, .int .i64 R2.low, .int .i64 R2.high] 38)
  have HB := below_alloc w5 (.cells #[.int .i64 R2.lo, .int .i64 R2.hi, .int .i64 R2.low, .int .i64 R2.high] 38)
  have cbf0 := Joins.cell_of_block ((HB.block _ (size_of_block bf)).trans bf) 0
  have cbf1 := Joins.cell_of_block ((HB.block _ (size_of_block bf)).trans bf) 1
  have cbf2 := Joins.cell_of_block ((HB.block _ (size_of_block bf)).trans bf) 2
  have cbf3 := Joins.cell_of_block ((HB.block _ (size_of_block bf)).trans bf) 3
  have cbf4 := Joins.cell_of_block ((HB.block _ (size_of_block bf)).trans bf) 4
  have cbx0 := Joins.cell_of_block ((HB.block _ (size_of_block bx)).trans bx) 0
  have cbx1 := Joins.cell_of_block ((HB.block _ (size_of_block bx)).trans bx) 1
  have cbx2 := Joins.cell_of_block ((HB.block _ (size_of_block bx)).trans bx) 2
  have cbx3 := Joins.cell_of_block ((HB.block _ (size_of_block bx)).trans bx) 3
  have cbx4 := Joins.cell_of_block ((HB.block _ (size_of_block bx)).trans bx) 4
  go_wp2_with fail
  generalize (w5.alloc (.cells #[.int .i64 R2.lo, .int .i64 R2.hi, .int .i64 R2.low, .int .i64 R2.high] 38)) = w6 at bt HB cbf0 cbf1 cbf2 cbf3 cbf4 cbx0 cbx1 cbx2 cbx3 cbx4 ⊢
  replace bf := (HB.block _ (size_of_block bf)).trans bf
  replace bx := (HB.block _ (size_of_block bx)).trans bx
  replace bp := (HB.block _ (size_of_block bp)).trans bp
  replace bn := (HB.block _ (size_of_block bn)).trans bn
  replace hk := hk.later HB
  replace hB := below_then hB HB
  clear HB
  refine (X3.out w6 hk).mono ?_
  rintro e w7 ⟨rfl, hF⟩
  clear cbf0 cbf1 cbf2 cbf3 cbf4 cbx0 cbx1 cbx2 cbx3 cbx4
  replace bf := (hF.block _ (size_of_block bf)).trans bf
  replace bx := (hF.block _ (size_of_block bx)).trans bx
  replace bp := (hF.block _ (size_of_block bp)).trans bp
  replace bn := (hF.block _ (size_of_block bn)).trans bn
  replace bt := (hF.block _ (size_of_block bt)).trans bt
  replace hk := hk.later hF
  replace hB := below_then hB hF
  clear hF
  clear bt
  have bo := heap_alloc_new w7 (.cells #[.int .i64 R3.lo, .int .i64 R3.hi, .int .i64 R3.low, .int .i64 R3.high] 38)
  have HB := below_alloc w7 (.cells #[.int .i64 R3.lo, .int .i64 R3.hi, .int .i64 R3.low, .int .i64 R3.high] 38)
  have cbf0 := Joins.cell_of_block ((HB.block _ (size_of_block bf)).trans bf) 0
  have cbf1 := Joins.cell_of_block ((HB.block _ (size_of_block bf)).trans bf) 1
  have cbf2 := Joins.cell_of_block ((HB.block _ (size_of_block bf)).trans bf) 2
  have cbf3 := Joins.cell_of_block ((HB.block _ (size_of_block bf)).trans bf) 3
  have cbf4 := Joins.cell_of_block ((HB.block _ (size_of_block bf)).trans bf) 4
  have cbp0 := Joins.cell_of_block ((HB.block _ (size_of_block bp)).trans bp) 0
  have cbp1 := Joins.cell_of_block ((HB.block _ (size_of_block bp)).trans bp) 1
  go_wp2_with fail
  generalize (w7.alloc (.cells #[.int .i64 R3.lo, .int .i64 R3.hi, .int .i64 R3.low, .int .i64 R3.high] 38)) = w8 at bo HB cbf0 cbf1 cbf2 cbf3 cbf4 cbp0 cbp1 ⊢
  replace bf := (HB.block _ (size_of_block bf)).trans bf
  replace bx := (HB.block _ (size_of_block bx)).trans bx
  replace bp := (HB.block _ (size_of_block bp)).trans bp
  replace bn := (HB.block _ (size_of_block bn)).trans bn
  replace hk := hk.later HB
  replace hB := below_then hB HB
  clear HB
  clear bo
  refine (X5.out w8 hk).mono ?_
  rintro e w9 ⟨s1, rfl, hs1, hF⟩
  clear cbf0 cbf1 cbf2 cbf3 cbf4 cbp0 cbp1
  replace bf := (hF.block _ (size_of_block bf)).trans bf
  replace bx := (hF.block _ (size_of_block bx)).trans bx
  replace bp := (hF.block _ (size_of_block bp)).trans bp
  replace bn := (hF.block _ (size_of_block bn)).trans bn
  replace hk := hk.later hF
  replace hB := below_then hB hF
  clear hF
  have hs := Ints.of_own hs1 (by have := HN.out; omega)
  clear hs1
  obtain ⟨As, caps, rfl, -, -⟩ := hs.open_
  have hi := builtL nC_len w9 [id] 3 #[.int .i64 id] w9.heap.size 1 rfl (by simp) rfl rfl
  have cbf0 := Joins.cell_of_block bf 0
  have cbf1 := Joins.cell_of_block bf 1
  have cbf2 := Joins.cell_of_block bf 2
  have cbf3 := Joins.cell_of_block bf 3
  have cbf4 := Joins.cell_of_block bf 4
  have HB := below_alloc w9 (.cells #[.int .i64 id] 3)
  have n0 := Joins.cell_of_block ((HB.block _ (size_of_block bf)).trans bf) 0
  have n1 := Joins.cell_of_block ((HB.block _ (size_of_block bf)).trans bf) 1
  have n2 := Joins.cell_of_block ((HB.block _ (size_of_block bf)).trans bf) 2
  have n3 := Joins.cell_of_block ((HB.block _ (size_of_block bf)).trans bf) 3
  have n4 := Joins.cell_of_block ((HB.block _ (size_of_block bf)).trans bf) 4
  go_wp2_with fail
  clear cbf0 cbf1 cbf2 cbf3 cbf4
  generalize w9.alloc (.cells #[.int .i64 id] 3) = w10 at hi HB n0 n1 n2 n3 n4 ⊢
  replace bf := (HB.block _ (size_of_block bf)).trans bf
  replace bx := (HB.block _ (size_of_block bx)).trans bx
  replace bp := (HB.block _ (size_of_block bp)).trans bp
  replace bn := (HB.block _ (size_of_block bn)).trans bn
  replace hk := hk.later HB
  replace hs := hs.later HB
  replace hB := below_then hB HB
  clear HB
  refine (X6.out w10 _ hk hi).mono ?_
  rintro e w11 ⟨lv, rfl, hlv, hF⟩
  clear n0 n1 n2 n3 n4
  replace bf := (hF.block _ (size_of_block bf)).trans bf
  replace bx := (hF.block _ (size_of_block bx)).trans bx
  replace bp := (hF.block _ (size_of_block bp)).trans bp
  replace bn := (hF.block _ (size_of_block bn)).trans bn
  replace hk := hk.later hF
  replace hs := hs.later hF
  replace hB := below_then hB hF
  clear hF hi
  have hf9 : ∃ (A : Option Addr) (n c : Nat), lv = .slice A n c := by
    obtain ⟨A, c, h⟩ := Sl.form hlv; exact ⟨_, _, _, h⟩
  obtain ⟨Al, nl, capl, rfl⟩ := hf9
  replace hlv : Sl lkC 5 w11 w11.heap.size (.slice Al nl capl) M := hlv
  have cz0 := Joins.cell_of_block (heap_alloc_new w11 (.cells #[.int .i64 f.rise, .int .i64 f.fall, .int .i64 f.up, .int .i64 f.down, .slice Al nl capl] 24)) 0
  have cz1 := Joins.cell_of_block (heap_alloc_new w11 (.cells #[.int .i64 f.rise, .int .i64 f.fall, .int .i64 f.up, .int .i64 f.down, .slice Al nl capl] 24)) 1
  have cz2 := Joins.cell_of_block (heap_alloc_new w11 (.cells #[.int .i64 f.rise, .int .i64 f.fall, .int .i64 f.up, .int .i64 f.down, .slice Al nl capl] 24)) 2
  have cz3 := Joins.cell_of_block (heap_alloc_new w11 (.cells #[.int .i64 f.rise, .int .i64 f.fall, .int .i64 f.up, .int .i64 f.down, .slice Al nl capl] 24)) 3
  have cz4 := Joins.cell_of_block (heap_alloc_new w11 (.cells #[.int .i64 f.rise, .int .i64 f.fall, .int .i64 f.up, .int .i64 f.down, .slice Al nl capl] 24)) 4
  have bl := heap_alloc_new w11 (.cells #[.int .i64 f.rise, .int .i64 f.fall, .int .i64 f.up, .int .i64 f.down, .slice Al nl capl] 24)
  have HB := below_alloc w11 (.cells #[.int .i64 f.rise, .int .i64 f.fall, .int .i64 f.up, .int .i64 f.down, .slice Al nl capl] 24)
  have cbp0 := Joins.cell_of_block ((HB.block _ (size_of_block bp)).trans bp) 0
  have cbp1 := Joins.cell_of_block ((HB.block _ (size_of_block bp)).trans bp) 1
  go_wp2_with fail
  generalize (w11.alloc (.cells #[.int .i64 f.rise, .int .i64 f.fall, .int .i64 f.up, .int .i64 f.down, .slice Al nl capl] 24)) = w12 at bl HB cbp0 cbp1 ⊢
  replace bf := (HB.block _ (size_of_block bf)).trans bf
  replace bx := (HB.block _ (size_of_block bx)).trans bx
  replace bp := (HB.block _ (size_of_block bp)).trans bp
  replace bn := (HB.block _ (size_of_block bn)).trans bn
  replace hk := hk.later HB
  replace hs := hs.later HB
  replace hlv := hlv.later HB
  replace hB := below_then hB HB
  clear HB
  clear cz0 cz1 cz2 cz3 cz4
  refine (X7.out w12 _ hlv).mono ?_
  rintro e w13 ⟨rfl, hF⟩
  clear cbp0 cbp1
  replace bf := (hF.block _ (size_of_block bf)).trans bf
  replace bx := (hF.block _ (size_of_block bx)).trans bx
  replace bp := (hF.block _ (size_of_block bp)).trans bp
  replace bn := (hF.block _ (size_of_block bn)).trans bn
  replace bl := (hF.block _ (size_of_block bl)).trans bl
  replace hk := hk.later hF
  replace hs := hs.later hF
  replace hlv := hlv.later hF
  replace hB := below_then hB hF
  clear hF
  clear bl
  have bb := heap_alloc_new w13 (.cells #[.int .i64 R5.lo, .int .i64 R5.hi, .int .i64 R5.low, .int .i64 R5.high] 38)
  have HB := below_alloc w13 (.cells #[.int .i64 R5.lo, .int .i64 R5.hi, .int .i64 R5.low, .int .i64 R5.high] 38)
  go_wp2_with fail
  generalize (w13.alloc (.cells #[.int .i64 R5.lo, .int .i64 R5.hi, .int .i64 R5.low, .int .i64 R5.high] 38)) = w14 at bb HB  ⊢
  replace bf := (HB.block _ (size_of_block bf)).trans bf
  replace bx := (HB.block _ (size_of_block bx)).trans bx
  replace bp := (HB.block _ (size_of_block bp)).trans bp
  replace bn := (HB.block _ (size_of_block bn)).trans bn
  replace hk := hk.later HB
  replace hs := hs.later HB
  replace hlv := hlv.later HB
  replace hB := below_then hB HB
  clear HB
  obtain ⟨AS, capS, hEq, -, -, hat⟩ := Ints.open_ hs
  cases hEq
  have HAT := Lib.hid hat
  clear hat
  have h24 := HN.out
  go_loopw [24, 25] (fun b i wr => ∃ j : Nat, j ≤ L.length ∧ i = .int .i64 j ∧ b = .bool ((L.take j).contains id) ∧ wr = w14) (fun _ i _ => L.length - (intOf i).toNat)
  case atStart => exact ⟨0, Nat.zero_le _, rfl, rfl, rfl⟩
  case round =>
    obtain ⟨j, hj, rfl, rfl, rfl⟩ := hrel
    by_cases hlt : j < L.length
    · obtain ⟨b9, off, x9, rfl, hb9, hx, d0⟩ := HAT.out j hlt
      have ht := Lib.hid (take_has hx id)
      clear hx
      cases hin : (L.take j).contains id with
      | true =>
        go_wp2_with fail
        go_roundw
        case rel => exact ⟨j + 1, by omega, by go_num, by rw [ht.out, hin]; rfl, trivial⟩
        case measure => simp [intOf]; omega
      | false =>
        go_wp2_with fail
        go_roundw
        case rel => exact ⟨j + 1, by omega, by go_num, by rw [ht.out, hin]; rfl, trivial⟩
        case measure => simp [intOf]; omega
    · obtain rfl : j = L.length := by omega
      rw [List.take_length]
      clear HAT
      go_wp2_with fail
      refine (sanity_c wr).mono ?_
      rintro e w15 ⟨rfl, hF⟩
      replace bf := (hF.block _ (size_of_block bf)).trans bf
      replace bx := (hF.block _ (size_of_block bx)).trans bx
      replace bp := (hF.block _ (size_of_block bp)).trans bp
      replace bn := (hF.block _ (size_of_block bn)).trans bn
      replace bb := (hF.block _ (size_of_block bb)).trans bb
      replace hk := hk.later hF
      replace hs := hs.later hF
      replace hlv := hlv.later hF
      replace hB := below_then hB hF
      clear hF
      have cbb0 := Joins.cell_of_block bb 0
      have cbb1 := Joins.cell_of_block bb 1
      have cbn0 := Joins.cell_of_block bn 0
      have cbn1 := Joins.cell_of_block bn 1
      go_wp2_with fail
      go_ret
      exact ⟨rfl, hB⟩
set_option maxRecDepth 100000 in
set_option maxHeartbeats 4000000 in
theorem FireMore_n2 (f : Fi) (A : Option Addr) (cap : Nat) (x : Lk) (p : Spt) (id : Int) (w : World) (hk : Lks w w.heap.size (.slice A f.ls.length cap) f.ls) (hfew : fewB f.ls.length = true) {R1 R5 : Bnd} (hK : MorK f x p id R1 R5) (hE : endsE f p = 0) (hlen : (restsR f p).length ≤ 24) (hG : wouldE f x p ≠ 0) (hH : endsE f x.at_ = 0) (hI : wouldE f ⟨x.id, x.foot, x.hour, (endsR f x.at_).lo, (endsR f x.at_).hi⟩ p = 0 ∧ (wouldR f ⟨x.id, x.foot, x.hour, (endsR f x.at_).lo, (endsR f x.at_).hi⟩ p).lo = R1.lo ∧ (wouldR f ⟨x.id, x.foot, x.hour, (endsR f x.at_).lo, (endsR f x.at_).hi⟩ p).hi = R1.hi) : Calls Try.prog 5 #[fiV f (.slice A f.ls.length cap), lkV x, sV p, .int .i64 id] w fun e w' => e = .returned (.bool true) ∧ Below w.heap.size w w' := by
  have x1 := fun W h => Ends_c f (.slice A f.ls.length cap) p W h
  rw [hK.now, hE] at x1
  have x2 := fun W h => Would_c f (.slice A f.ls.length cap) x p W h
  obtain ⟨R2, hR2⟩ : ∃ e, e = wouldR f x p := ⟨_, rfl⟩
  rw [← hR2] at x2
  obtain ⟨G, hG2⟩ : ∃ e, e = wouldE f x p := ⟨_, rfl⟩
  rw [← hG2] at x2 hG
  have d2 : (G == 0) = false := by simpa using hG
  clear hG2
  clear hG hR2
  have x3 := fun W h => Ends_c f (.slice A f.ls.length cap) x.at_ W h
  obtain ⟨R3, hR3⟩ : ∃ e, e = endsR f x.at_ := ⟨_, rfl⟩
  rw [← hR3] at x3
  rw [← hR3] at hI
  rw [hH] at x3
  clear hH hR3
  have x4 := fun W h => Would_c f (.slice A f.ls.length cap) ⟨x.id, x.foot, x.hour, R3.lo, R3.hi⟩ p W h
  obtain ⟨⟨r0, r1, r2, r3⟩, hR4⟩ : ∃ e, e = wouldR f ⟨x.id, x.foot, x.hour, R3.lo, R3.hi⟩ p := ⟨_, rfl⟩
  rw [← hR4] at x4 hI
  clear hR4
  obtain ⟨hI1, hI2, hI3⟩ := hI
  rw [hI1] at x4
  clear hI1
  obtain rfl : r0 = R1.lo := hI2
  obtain rfl : r1 = R1.hi := hI3
  have hne := fun W => Try.neSp R1.lo R1.hi R1.lo R1.hi W
  simp only [beq_self_eq_true, Bool.and_self, Bool.not_true] at hne
  unfold lkV bndV at x4
  simp only at x4
  have x5 := fun W h => Rests_c f (.slice A f.ls.length cap) p W h
  rw [hE] at x5
  have hrs := hK.rests
  obtain ⟨L, hL⟩ : ∃ e, e = restsR f p := ⟨_, rfl⟩
  rw [← hL] at x5 hrs hlen
  clear hL hE
  have x6 := fun W vi h hi => Without_c f (.slice A f.ls.length cap) vi [id] W h hi
  rw [hK.way, hK.fire] at x6
  have x7 := fun W v h => Ends_c (withF f (butL f.ls [id])) v p W h
  rw [hK.less, hK.then_] at x7
  clear hK
  generalize butL f.ls [id] = M at x6 x7
  have hnb := fun W => Try.neSp R5.lo R5.hi R1.lo R1.hi W
  rw [← hrs] at hnb
  clear hrs
  unfold bndV at x1 x2 x3 x7
  dsimp only [fiV, withF] at x6
  have HN := Lib.hid hlen
  clear hlen
  have X1 := Lib.hid x1
  have X2 := Lib.hid x2
  have X3 := Lib.hid x3
  have X5 := Lib.hid x5
  have X6 := Lib.hid x6
  have X7 := Lib.hid x7
  have X4 := Lib.hid x4
  clear x1 x2 x3 x5 x6 x7 x4
  have HK := Lib.hid hk
  clear hk
  unfold fiV lkV sV
  go_enter Try.func5, Try.ntmps5
  obtain ⟨bf, bx, bp, -, HB⟩ := three_new w (.cells #[.int .i64 f.rise, .int .i64 f.fall, .int .i64 f.up, .int .i64 f.down, .slice A f.ls.length cap] 24) (.cells #[.int .i64 x.id, .int .i64 x.foot, .int .i64 x.hour, .int .i64 x.lo, .int .i64 x.hi] 55) (.cells #[.int .i64 p.foot, .int .i64 p.hour] 42)
  go_wp2_with fail
  generalize (((w.alloc (.cells #[.int .i64 f.rise, .int .i64 f.fall, .int .i64 f.up, .int .i64 f.down, .slice A f.ls.length cap] 24)).alloc (.cells #[.int .i64 x.id, .int .i64 x.foot, .int .i64 x.hour, .int .i64 x.lo, .int .i64 x.hi] 55)).alloc (.cells #[.int .i64 p.foot, .int .i64 p.hour] 42)) = w1 at bf bx bp HB  ⊢
  have hB := HB
  clear HB
  have hk := HK.out.later hB
  refine (few_c f A f.ls.length cap _).mono ?_
  rintro e w2 ⟨rfl, hF⟩
  replace bf := (hF.block _ (size_of_block bf)).trans bf
  replace bx := (hF.block _ (size_of_block bx)).trans bx
  replace bp := (hF.block _ (size_of_block bp)).trans bp
  replace hk := hk.later hF
  replace hB := below_then hB hF
  clear hF
  rw [hfew]
  have cbf0 := Joins.cell_of_block bf 0
  have cbf1 := Joins.cell_of_block bf 1
  have cbf2 := Joins.cell_of_block bf 2
  have cbf3 := Joins.cell_of_block bf 3
  have cbf4 := Joins.cell_of_block bf 4
  have cbp0 := Joins.cell_of_block bp 0
  have cbp1 := Joins.cell_of_block bp 1
  go_wp2_with fail
  refine (X1.out w2 hk).mono ?_
  rintro e w3 ⟨rfl, hF⟩
  clear cbf0 cbf1 cbf2 cbf3 cbf4 cbp0 cbp1
  replace bf := (hF.block _ (size_of_block bf)).trans bf
  replace bx := (hF.block _ (size_of_block bx)).trans bx
  replace bp := (hF.block _ (size_of_block bp)).trans bp
  replace hk := hk.later hF
  replace hB := below_then hB hF
  clear hF
  have bn := heap_alloc_new w3 (.cells #[.int .i64 R1.lo, .int .i64 R1.hi, .int .i64 R1.low, .int .i64 R1.high] 38)
  have HB := below_alloc w3 (.cells #[.int .i64 R1.lo, .int .i64 R1.hi, .int .i64 R1.low, .int .i64 R1.high] 38)
  have cbf0 := Joins.cell_of_block ((HB.block _ (size_of_block bf)).trans bf) 0
  have cbf1 := Joins.cell_of_block ((HB.block _ (size_of_block bf)).trans bf) 1
  have cbf2 := Joins.cell_of_block ((HB.block _ (size_of_block bf)).trans bf) 2
  have cbf3 := Joins.cell_of_block ((HB.block _ (size_of_block bf)).trans bf) 3
  have cbf4 := Joins.cell_of_block ((HB.block _ (size_of_block bf)).trans bf) 4
  have cbx0 := Joins.cell_of_block ((HB.block _ (size_of_block bx)).trans bx) 0
  have cbx1 := Joins.cell_of_block ((HB.block _ (size_of_block bx)).trans bx) 1
  have cbx2 := Joins.cell_of_block ((HB.block _ (size_of_block bx)).trans bx) 2
  have cbx3 := Joins.cell_of_block ((HB.block _ (size_of_block bx)).trans bx) 3
  have cbx4 := Joins.cell_of_block ((HB.block _ (size_of_block bx)).trans bx) 4
  have cbp0 := Joins.cell_of_block ((HB.block _ (size_of_block bp)).trans bp) 0
  have cbp1 := Joins.cell_of_block ((HB.block _ (size_of_block bp)).trans bp) 1
  go_wp2_with fail
  generalize (w3.alloc (.cells #[.int .i64 R1.lo, .int .i64 R1.hi, .int .i64 R1.low, .int .i64 R1.high] 38)) = w4 at bn HB cbf0 cbf1 cbf2 cbf3 cbf4 cbx0 cbx1 cbx2 cbx3 cbx4 cbp0 cbp1 ⊢
  replace bf := (HB.block _ (size_of_block bf)).trans bf
  replace bx := (HB.block _ (size_of_block bx)).trans bx
  replace bp := (HB.block _ (size_of_block bp)).trans bp
  replace hk := hk.later HB
  replace hB := below_then hB HB
  clear HB
  refine (X2.out w4 hk).mono ?_
  rintro e w5 ⟨rfl, hF⟩
  clear cbf0 cbf1 cbf2 cbf3 cbf4 cbx0 cbx1 cbx2 cbx3 cbx4 cbp0 cbp1
  replace bf := (hF.block _ (size_of_block bf)).trans bf
  replace bx := (hF.block _ (size_of_block bx)).trans bx
  replace bp := (hF.block _ (size_of_block bp)).trans bp
  replace bn := (hF.block _ (size_of_block bn)).trans bn
  replace hk := hk.later hF
  replace hB := below_then hB hF
  clear hF
  have bt := heap_alloc_new w5 (.cells #[.int .i64 R2.lo, .int .i64 R2.hi, .int .i64 R2.low, .int .i64 R2.high] 38)
  have HB := below_alloc w5 (.cells #[.int .i64 R2.lo, .int .i64 R2.hi, .int .i64 R2.low, .int .i64 R2.high] 38)
  have cbf0 := Joins.cell_of_block ((HB.block _ (size_of_block bf)).trans bf) 0
  have cbf1 := Joins.cell_of_block ((HB.block _ (size_of_block bf)).trans bf) 1
  have cbf2 := Joins.cell_of_block ((HB.block _ (size_of_block bf)).trans bf) 2
  have cbf3 := Joins.cell_of_block ((HB.block _ (size_of_block bf)).trans bf) 3
  have cbf4 := Joins.cell_of_block ((HB.block _ (size_of_block bf)).trans bf) 4
  have cbx0 := Joins.cell_of_block ((HB.block _ (size_of_block bx)).trans bx) 0
  have cbx1 := Joins.cell_of_block ((HB.block _ (size_of_block bx)).trans bx) 1
  have cbx2 := Joins.cell_of_block ((HB.block _ (size_of_block bx)).trans bx) 2
  have cbx3 := Joins.cell_of_block ((HB.block _ (size_of_block bx)).trans bx) 3
  have cbx4 := Joins.cell_of_block ((HB.block _ (size_of_block bx)).trans bx) 4
  go_wp2_with fail
  generalize (w5.alloc (.cells #[.int .i64 R2.lo, .int .i64 R2.hi, .int .i64 R2.low, .int .i64 R2.high] 38)) = w6 at bt HB cbf0 cbf1 cbf2 cbf3 cbf4 cbx0 cbx1 cbx2 cbx3 cbx4 ⊢
  replace bf := (HB.block _ (size_of_block bf)).trans bf
  replace bx := (HB.block _ (size_of_block bx)).trans bx
  replace bp := (HB.block _ (size_of_block bp)).trans bp
  replace bn := (HB.block _ (size_of_block bn)).trans bn
  replace hk := hk.later HB
  replace hB := below_then hB HB
  clear HB
  refine (X3.out w6 hk).mono ?_
  rintro e w7 ⟨rfl, hF⟩
  clear cbf0 cbf1 cbf2 cbf3 cbf4 cbx0 cbx1 cbx2 cbx3 cbx4
  replace bf := (hF.block _ (size_of_block bf)).trans bf
  replace bx := (hF.block _ (size_of_block bx)).trans bx
  replace bp := (hF.block _ (size_of_block bp)).trans bp
  replace bn := (hF.block _ (size_of_block bn)).trans bn
  replace bt := (hF.block _ (size_of_block bt)).trans bt
  replace hk := hk.later hF
  replace hB := below_then hB hF
  clear hF
  clear bt
  obtain ⟨bo, -, -, -⟩ := two_new' w7 (.cells #[.int .i64 R3.lo, .int .i64 R3.hi, .int .i64 R3.low, .int .i64 R3.high] 38) (.cells #[.int .i64 x.id, .int .i64 x.foot, .int .i64 x.hour, .int .i64 x.lo, .int .i64 x.hi] 55)
  have HA := below_alloc w7 (.cells #[.int .i64 R3.lo, .int .i64 R3.hi, .int .i64 R3.low, .int .i64 R3.high] 38)
  obtain ⟨-, ys, -, HB⟩ := two_new' w7 (.cells #[.int .i64 R3.lo, .int .i64 R3.hi, .int .i64 R3.low, .int .i64 R3.high] 38) (.cells #[.int .i64 x.id, .int .i64 x.foot, .int .i64 x.hour, .int .i64 R3.lo, .int .i64 R3.hi] 55)
  have ca0 := Joins.cell_of_block ((HA.block _ (size_of_block bx)).trans bx) 0
  have ca1 := Joins.cell_of_block ((HA.block _ (size_of_block bx)).trans bx) 1
  have ca2 := Joins.cell_of_block ((HA.block _ (size_of_block bx)).trans bx) 2
  have ca3 := Joins.cell_of_block ((HA.block _ (size_of_block bx)).trans bx) 3
  have ca4 := Joins.cell_of_block ((HA.block _ (size_of_block bx)).trans bx) 4
  have cb0 := Joins.cell_of_block bo 0
  have cb1 := Joins.cell_of_block bo 1
  have cc0 := Joins.cell_of_block (heap_alloc_new w7 (.cells #[.int .i64 R3.lo, .int .i64 R3.hi, .int .i64 R3.low, .int .i64 R3.high] 38)) 0
  have cc1 := Joins.cell_of_block (heap_alloc_new w7 (.cells #[.int .i64 R3.lo, .int .i64 R3.hi, .int .i64 R3.low, .int .i64 R3.high] 38)) 1
  have cdbf0 := Joins.cell_of_block ((HB.block _ (size_of_block bf)).trans bf) 0
  have cdbf1 := Joins.cell_of_block ((HB.block _ (size_of_block bf)).trans bf) 1
  have cdbf2 := Joins.cell_of_block ((HB.block _ (size_of_block bf)).trans bf) 2
  have cdbf3 := Joins.cell_of_block ((HB.block _ (size_of_block bf)).trans bf) 3
  have cdbf4 := Joins.cell_of_block ((HB.block _ (size_of_block bf)).trans bf) 4
  have cdbp0 := Joins.cell_of_block ((HB.block _ (size_of_block bp)).trans bp) 0
  have cdbp1 := Joins.cell_of_block ((HB.block _ (size_of_block bp)).trans bp) 1
  have ce0 := Joins.cell_of_block ys 0
  have ce1 := Joins.cell_of_block ys 1
  have ce2 := Joins.cell_of_block ys 2
  have ce3 := Joins.cell_of_block ys 3
  have ce4 := Joins.cell_of_block ys 4
  go_wp2_with fail
  clear HA bo ca0 ca1 ca2 ca3 ca4 cb0 cb1 cc0 cc1
  generalize ((w7.alloc (.cells #[.int .i64 R3.lo, .int .i64 R3.hi, .int .i64 R3.low, .int .i64 R3.high] 38)).alloc (.cells #[.int .i64 x.id, .int .i64 x.foot, .int .i64 x.hour, .int .i64 R3.lo, .int .i64 R3.hi] 55)) = w8 at ys HB cdbf0 cdbf1 cdbf2 cdbf3 cdbf4 cdbp0 cdbp1 ce0 ce1 ce2 ce3 ce4 ⊢
  clear ys
  replace bf := (HB.block _ (size_of_block bf)).trans bf
  replace bx := (HB.block _ (size_of_block bx)).trans bx
  replace bp := (HB.block _ (size_of_block bp)).trans bp
  replace bn := (HB.block _ (size_of_block bn)).trans bn
  replace hk := hk.later HB
  replace hB := below_then hB HB
  clear HB
  refine (X4.out w8 hk).mono ?_
  rintro e w9 ⟨rfl, hF⟩
  clear cdbf0 cdbf1 cdbf2 cdbf3 cdbf4 cdbp0 cdbp1 ce0 ce1 ce2 ce3 ce4
  replace bf := (hF.block _ (size_of_block bf)).trans bf
  replace bx := (hF.block _ (size_of_block bx)).trans bx
  replace bp := (hF.block _ (size_of_block bp)).trans bp
  replace bn := (hF.block _ (size_of_block bn)).trans bn
  replace hk := hk.later hF
  replace hB := below_then hB hF
  clear hF
  have cz0 := Joins.cell_of_block (heap_alloc_new w9 (.cells #[.int .i64 R1.lo, .int .i64 R1.hi, .int .i64 r2, .int .i64 r3] 38)) 0
  have cz1 := Joins.cell_of_block (heap_alloc_new w9 (.cells #[.int .i64 R1.lo, .int .i64 R1.hi, .int .i64 r2, .int .i64 r3] 38)) 1
  have bs := heap_alloc_new w9 (.cells #[.int .i64 R1.lo, .int .i64 R1.hi, .int .i64 r2, .int .i64 r3] 38)
  have HB := below_alloc w9 (.cells #[.int .i64 R1.lo, .int .i64 R1.hi, .int .i64 r2, .int .i64 r3] 38)
  have cbf0 := Joins.cell_of_block ((HB.block _ (size_of_block bf)).trans bf) 0
  have cbf1 := Joins.cell_of_block ((HB.block _ (size_of_block bf)).trans bf) 1
  have cbf2 := Joins.cell_of_block ((HB.block _ (size_of_block bf)).trans bf) 2
  have cbf3 := Joins.cell_of_block ((HB.block _ (size_of_block bf)).trans bf) 3
  have cbf4 := Joins.cell_of_block ((HB.block _ (size_of_block bf)).trans bf) 4
  have cbp0 := Joins.cell_of_block ((HB.block _ (size_of_block bp)).trans bp) 0
  have cbp1 := Joins.cell_of_block ((HB.block _ (size_of_block bp)).trans bp) 1
  have cbn0 := Joins.cell_of_block ((HB.block _ (size_of_block bn)).trans bn) 0
  have cbn1 := Joins.cell_of_block ((HB.block _ (size_of_block bn)).trans bn) 1
  have cbn2 := Joins.cell_of_block ((HB.block _ (size_of_block bn)).trans bn) 2
  have cbn3 := Joins.cell_of_block ((HB.block _ (size_of_block bn)).trans bn) 3
  go_wp2_with fail
  generalize (w9.alloc (.cells #[.int .i64 R1.lo, .int .i64 R1.hi, .int .i64 r2, .int .i64 r3] 38)) = w10 at bs HB cbf0 cbf1 cbf2 cbf3 cbf4 cbp0 cbp1 cbn0 cbn1 cbn2 cbn3 ⊢
  replace bf := (HB.block _ (size_of_block bf)).trans bf
  replace bx := (HB.block _ (size_of_block bx)).trans bx
  replace bp := (HB.block _ (size_of_block bp)).trans bp
  replace bn := (HB.block _ (size_of_block bn)).trans bn
  replace hk := hk.later HB
  replace hB := below_then hB HB
  clear HB
  clear cz0 cz1
  clear bs
  clear hne
  refine (X5.out w10 hk).mono ?_
  rintro e w11 ⟨s1, rfl, hs1, hF⟩
  clear cbf0 cbf1 cbf2 cbf3 cbf4 cbp0 cbp1 cbn0 cbn1 cbn2 cbn3
  replace bf := (hF.block _ (size_of_block bf)).trans bf
  replace bx := (hF.block _ (size_of_block bx)).trans bx
  replace bp := (hF.block _ (size_of_block bp)).trans bp
  replace bn := (hF.block _ (size_of_block bn)).trans bn
  replace hk := hk.later hF
  replace hB := below_then hB hF
  clear hF
  have hs := Ints.of_own hs1 (by have := HN.out; omega)
  clear hs1
  obtain ⟨As, caps, rfl, -, -⟩ := hs.open_
  have hi := builtL nC_len w11 [id] 3 #[.int .i64 id] w11.heap.size 1 rfl (by simp) rfl rfl
  have cbf0 := Joins.cell_of_block bf 0
  have cbf1 := Joins.cell_of_block bf 1
  have cbf2 := Joins.cell_of_block bf 2
  have cbf3 := Joins.cell_of_block bf 3
  have cbf4 := Joins.cell_of_block bf 4
  have HB := below_alloc w11 (.cells #[.int .i64 id] 3)
  have n0 := Joins.cell_of_block ((HB.block _ (size_of_block bf)).trans bf) 0
  have n1 := Joins.cell_of_block ((HB.block _ (size_of_block bf)).trans bf) 1
  have n2 := Joins.cell_of_block ((HB.block _ (size_of_block bf)).trans bf) 2
  have n3 := Joins.cell_of_block ((HB.block _ (size_of_block bf)).trans bf) 3
  have n4 := Joins.cell_of_block ((HB.block _ (size_of_block bf)).trans bf) 4
  go_wp2_with fail
  clear cbf0 cbf1 cbf2 cbf3 cbf4
  generalize w11.alloc (.cells #[.int .i64 id] 3) = w12 at hi HB n0 n1 n2 n3 n4 ⊢
  replace bf := (HB.block _ (size_of_block bf)).trans bf
  replace bx := (HB.block _ (size_of_block bx)).trans bx
  replace bp := (HB.block _ (size_of_block bp)).trans bp
  replace bn := (HB.block _ (size_of_block bn)).trans bn
  replace hk := hk.later HB
  replace hs := hs.later HB
  replace hB := below_then hB HB
  clear HB
  refine (X6.out w12 _ hk hi).mono ?_
  rintro e w13 ⟨lv, rfl, hlv, hF⟩
  clear n0 n1 n2 n3 n4
  replace bf := (hF.block _ (size_of_block bf)).trans bf
  replace bx := (hF.block _ (size_of_block bx)).trans bx
  replace bp := (hF.block _ (size_of_block bp)).trans bp
  replace bn := (hF.block _ (size_of_block bn)).trans bn
  replace hk := hk.later hF
  replace hs := hs.later hF
  replace hB := below_then hB hF
  clear hF hi
  have hf9 : ∃ (A : Option Addr) (n c : Nat), lv = .slice A n c := by
    obtain ⟨A, c, h⟩ := Sl.form hlv; exact ⟨_, _, _, h⟩
  obtain ⟨Al, nl, capl, rfl⟩ := hf9
  replace hlv : Sl lkC 5 w13 w13.heap.size (.slice Al nl capl) M := hlv
  have cz0 := Joins.cell_of_block (heap_alloc_new w13 (.cells #[.int .i64 f.rise, .int .i64 f.fall, .int .i64 f.up, .int .i64 f.down, .slice Al nl capl] 24)) 0
  have cz1 := Joins.cell_of_block (heap_alloc_new w13 (.cells #[.int .i64 f.rise, .int .i64 f.fall, .int .i64 f.up, .int .i64 f.down, .slice Al nl capl] 24)) 1
  have cz2 := Joins.cell_of_block (heap_alloc_new w13 (.cells #[.int .i64 f.rise, .int .i64 f.fall, .int .i64 f.up, .int .i64 f.down, .slice Al nl capl] 24)) 2
  have cz3 := Joins.cell_of_block (heap_alloc_new w13 (.cells #[.int .i64 f.rise, .int .i64 f.fall, .int .i64 f.up, .int .i64 f.down, .slice Al nl capl] 24)) 3
  have cz4 := Joins.cell_of_block (heap_alloc_new w13 (.cells #[.int .i64 f.rise, .int .i64 f.fall, .int .i64 f.up, .int .i64 f.down, .slice Al nl capl] 24)) 4
  have bl := heap_alloc_new w13 (.cells #[.int .i64 f.rise, .int .i64 f.fall, .int .i64 f.up, .int .i64 f.down, .slice Al nl capl] 24)
  have HB := below_alloc w13 (.cells #[.int .i64 f.rise, .int .i64 f.fall, .int .i64 f.up, .int .i64 f.down, .slice Al nl capl] 24)
  have cbp0 := Joins.cell_of_block ((HB.block _ (size_of_block bp)).trans bp) 0
  have cbp1 := Joins.cell_of_block ((HB.block _ (size_of_block bp)).trans bp) 1
  go_wp2_with fail
  generalize (w13.alloc (.cells #[.int .i64 f.rise, .int .i64 f.fall, .int .i64 f.up, .int .i64 f.down, .slice Al nl capl] 24)) = w14 at bl HB cbp0 cbp1 ⊢
  replace bf := (HB.block _ (size_of_block bf)).trans bf
  replace bx := (HB.block _ (size_of_block bx)).trans bx
  replace bp := (HB.block _ (size_of_block bp)).trans bp
  replace bn := (HB.block _ (size_of_block bn)).trans bn
  replace hk := hk.later HB
  replace hs := hs.later HB
  replace hlv := hlv.later HB
  replace hB := below_then hB HB
  clear HB
  clear cz0 cz1 cz2 cz3 cz4
  refine (X7.out w14 _ hlv).mono ?_
  rintro e w15 ⟨rfl, hF⟩
  clear cbp0 cbp1
  replace bf := (hF.block _ (size_of_block bf)).trans bf
  replace bx := (hF.block _ (size_of_block bx)).trans bx
  replace bp := (hF.block _ (size_of_block bp)).trans bp
  replace bn := (hF.block _ (size_of_block bn)).trans bn
  replace bl := (hF.block _ (size_of_block bl)).trans bl
  replace hk := hk.later hF
  replace hs := hs.later hF
  replace hlv := hlv.later hF
  replace hB := below_then hB hF
  clear hF
  clear bl
  have bb := heap_alloc_new w15 (.cells #[.int .i64 R5.lo, .int .i64 R5.hi, .int .i64 R5.low, .int .i64 R5.high] 38)
  have HB := below_alloc w15 (.cells #[.int .i64 R5.lo, .int .i64 R5.hi, .int .i64 R5.low, .int .i64 R5.high] 38)
  go_wp2_with fail
  generalize (w15.alloc (.cells #[.int .i64 R5.lo, .int .i64 R5.hi, .int .i64 R5.low, .int .i64 R5.high] 38)) = w16 at bb HB  ⊢
  replace bf := (HB.block _ (size_of_block bf)).trans bf
  replace bx := (HB.block _ (size_of_block bx)).trans bx
  replace bp := (HB.block _ (size_of_block bp)).trans bp
  replace bn := (HB.block _ (size_of_block bn)).trans bn
  replace hk := hk.later HB
  replace hs := hs.later HB
  replace hlv := hlv.later HB
  replace hB := below_then hB HB
  clear HB
  obtain ⟨AS, capS, hEq, -, -, hat⟩ := Ints.open_ hs
  cases hEq
  have HAT := Lib.hid hat
  clear hat
  have h24 := HN.out
  go_loopw [24, 25] (fun b i wr => ∃ j : Nat, j ≤ L.length ∧ i = .int .i64 j ∧ b = .bool ((L.take j).contains id) ∧ wr = w16) (fun _ i _ => L.length - (intOf i).toNat)
  case atStart => exact ⟨0, Nat.zero_le _, rfl, rfl, rfl⟩
  case round =>
    obtain ⟨j, hj, rfl, rfl, rfl⟩ := hrel
    by_cases hlt : j < L.length
    · obtain ⟨b9, off, x9, rfl, hb9, hx, d0⟩ := HAT.out j hlt
      have ht := Lib.hid (take_has hx id)
      clear hx
      cases hin : (L.take j).contains id with
      | true =>
        go_wp2_with fail
        go_roundw
        case rel => exact ⟨j + 1, by omega, by go_num, by rw [ht.out, hin]; rfl, trivial⟩
        case measure => simp [intOf]; omega
      | false =>
        go_wp2_with fail
        go_roundw
        case rel => exact ⟨j + 1, by omega, by go_num, by rw [ht.out, hin]; rfl, trivial⟩
        case measure => simp [intOf]; omega
    · obtain rfl : j = L.length := by omega
      rw [List.take_length]
      clear HAT
      go_wp2_with fail
      refine (sanity_c wr).mono ?_
      rintro e w17 ⟨rfl, hF⟩
      replace bf := (hF.block _ (size_of_block bf)).trans bf
      replace bx := (hF.block _ (size_of_block bx)).trans bx
      replace bp := (hF.block _ (size_of_block bp)).trans bp
      replace bn := (hF.block _ (size_of_block bn)).trans bn
      replace bb := (hF.block _ (size_of_block bb)).trans bb
      replace hk := hk.later hF
      replace hs := hs.later hF
      replace hlv := hlv.later hF
      replace hB := below_then hB hF
      clear hF
      have cbb0 := Joins.cell_of_block bb 0
      have cbb1 := Joins.cell_of_block bb 1
      have cbn0 := Joins.cell_of_block bn 0
      have cbn1 := Joins.cell_of_block bn 1
      go_wp2_with fail
      go_ret
      exact ⟨rfl, hB⟩
set_option maxRecDepth 100000 in
set_option maxHeartbeats 4000000 in
theorem FireMore_n3 (f : Fi) (A : Option Addr) (cap : Nat) (x : Lk) (p : Spt) (id : Int) (w : World) (hk : Lks w w.heap.size (.slice A f.ls.length cap) f.ls) (hfew : fewB f.ls.length = true) {R1 R5 : Bnd} (hK : MorK f x p id R1 R5) (hE : endsE f p = 0) (hlen : (restsR f p).length ≤ 24) (hG : wouldE f x p ≠ 0) (hH : endsE f x.at_ = 0) (hI : wouldE f ⟨x.id, x.foot, x.hour, (endsR f x.at_).lo, (endsR f x.at_).hi⟩ p ≠ 0 ∧ wouldE f ⟨x.id, x.foot, x.hour, (endsR f x.at_).lo, (endsR f x.at_).hi⟩ p ≠ 9) : Calls Try.prog 5 #[fiV f (.slice A f.ls.length cap), lkV x, sV p, .int .i64 id] w fun e w' => e = .returned (.bool true) ∧ Below w.heap.size w w' := by
  have x1 := fun W h => Ends_c f (.slice A f.ls.length cap) p W h
  rw [hK.now, hE] at x1
  have x2 := fun W h => Would_c f (.slice A f.ls.length cap) x p W h
  obtain ⟨R2, hR2⟩ : ∃ e, e = wouldR f x p := ⟨_, rfl⟩
  rw [← hR2] at x2
  obtain ⟨G, hG2⟩ : ∃ e, e = wouldE f x p := ⟨_, rfl⟩
  rw [← hG2] at x2 hG
  have d2 : (G == 0) = false := by simpa using hG
  clear hG2
  clear hG hR2
  have x3 := fun W h => Ends_c f (.slice A f.ls.length cap) x.at_ W h
  obtain ⟨R3, hR3⟩ : ∃ e, e = endsR f x.at_ := ⟨_, rfl⟩
  rw [← hR3] at x3
  rw [← hR3] at hI
  rw [hH] at x3
  clear hH hR3
  have x4 := fun W h => Would_c f (.slice A f.ls.length cap) ⟨x.id, x.foot, x.hour, R3.lo, R3.hi⟩ p W h
  obtain ⟨⟨r0, r1, r2, r3⟩, hR4⟩ : ∃ e, e = wouldR f ⟨x.id, x.foot, x.hour, R3.lo, R3.hi⟩ p := ⟨_, rfl⟩
  rw [← hR4] at x4
  clear hR4
  obtain ⟨I, hI2⟩ : ∃ e, e = wouldE f ⟨x.id, x.foot, x.hour, R3.lo, R3.hi⟩ p := ⟨_, rfl⟩
  rw [← hI2] at x4 hI
  clear hI2
  have d5 : (I == 0) = false := by simpa using hI.1
  have d6 : (I == 9) = false := by simpa using hI.2
  clear hI
  unfold lkV bndV at x4
  simp only at x4
  have x5 := fun W h => Rests_c f (.slice A f.ls.length cap) p W h
  rw [hE] at x5
  have hrs := hK.rests
  obtain ⟨L, hL⟩ : ∃ e, e = restsR f p := ⟨_, rfl⟩
  rw [← hL] at x5 hrs hlen
  clear hL hE
  have x6 := fun W vi h hi => Without_c f (.slice A f.ls.length cap) vi [id] W h hi
  rw [hK.way, hK.fire] at x6
  have x7 := fun W v h => Ends_c (withF f (butL f.ls [id])) v p W h
  rw [hK.less, hK.then_] at x7
  clear hK
  generalize butL f.ls [id] = M at x6 x7
  have hnb := fun W => Try.neSp R5.lo R5.hi R1.lo R1.hi W
  rw [← hrs] at hnb
  clear hrs
  unfold bndV at x1 x2 x3 x7
  dsimp only [fiV, withF] at x6
  have HN := Lib.hid hlen
  clear hlen
  have X1 := Lib.hid x1
  have X2 := Lib.hid x2
  have X3 := Lib.hid x3
  have X5 := Lib.hid x5
  have X6 := Lib.hid x6
  have X7 := Lib.hid x7
  have X4 := Lib.hid x4
  clear x1 x2 x3 x5 x6 x7 x4
  have HK := Lib.hid hk
  clear hk
  unfold fiV lkV sV
  go_enter Try.func5, Try.ntmps5
  obtain ⟨bf, bx, bp, -, HB⟩ := three_new w (.cells #[.int .i64 f.rise, .int .i64 f.fall, .int .i64 f.up, .int .i64 f.down, .slice A f.ls.length cap] 24) (.cells #[.int .i64 x.id, .int .i64 x.foot, .int .i64 x.hour, .int .i64 x.lo, .int .i64 x.hi] 55) (.cells #[.int .i64 p.foot, .int .i64 p.hour] 42)
  go_wp2_with fail
  generalize (((w.alloc (.cells #[.int .i64 f.rise, .int .i64 f.fall, .int .i64 f.up, .int .i64 f.down, .slice A f.ls.length cap] 24)).alloc (.cells #[.int .i64 x.id, .int .i64 x.foot, .int .i64 x.hour, .int .i64 x.lo, .int .i64 x.hi] 55)).alloc (.cells #[.int .i64 p.foot, .int .i64 p.hour] 42)) = w1 at bf bx bp HB  ⊢
  have hB := HB
  clear HB
  have hk := HK.out.later hB
  refine (few_c f A f.ls.length cap _).mono ?_
  rintro e w2 ⟨rfl, hF⟩
  replace bf := (hF.block _ (size_of_block bf)).trans bf
  replace bx := (hF.block _ (size_of_block bx)).trans bx
  replace bp := (hF.block _ (size_of_block bp)).trans bp
  replace hk := hk.later hF
  replace hB := below_then hB hF
  clear hF
  rw [hfew]
  have cbf0 := Joins.cell_of_block bf 0
  have cbf1 := Joins.cell_of_block bf 1
  have cbf2 := Joins.cell_of_block bf 2
  have cbf3 := Joins.cell_of_block bf 3
  have cbf4 := Joins.cell_of_block bf 4
  have cbp0 := Joins.cell_of_block bp 0
  have cbp1 := Joins.cell_of_block bp 1
  go_wp2_with fail
  refine (X1.out w2 hk).mono ?_
  rintro e w3 ⟨rfl, hF⟩
  clear cbf0 cbf1 cbf2 cbf3 cbf4 cbp0 cbp1
  replace bf := (hF.block _ (size_of_block bf)).trans bf
  replace bx := (hF.block _ (size_of_block bx)).trans bx
  replace bp := (hF.block _ (size_of_block bp)).trans bp
  replace hk := hk.later hF
  replace hB := below_then hB hF
  clear hF
  have bn := heap_alloc_new w3 (.cells #[.int .i64 R1.lo, .int .i64 R1.hi, .int .i64 R1.low, .int .i64 R1.high] 38)
  have HB := below_alloc w3 (.cells #[.int .i64 R1.lo, .int .i64 R1.hi, .int .i64 R1.low, .int .i64 R1.high] 38)
  have cbf0 := Joins.cell_of_block ((HB.block _ (size_of_block bf)).trans bf) 0
  have cbf1 := Joins.cell_of_block ((HB.block _ (size_of_block bf)).trans bf) 1
  have cbf2 := Joins.cell_of_block ((HB.block _ (size_of_block bf)).trans bf) 2
  have cbf3 := Joins.cell_of_block ((HB.block _ (size_of_block bf)).trans bf) 3
  have cbf4 := Joins.cell_of_block ((HB.block _ (size_of_block bf)).trans bf) 4
  have cbx0 := Joins.cell_of_block ((HB.block _ (size_of_block bx)).trans bx) 0
  have cbx1 := Joins.cell_of_block ((HB.block _ (size_of_block bx)).trans bx) 1
  have cbx2 := Joins.cell_of_block ((HB.block _ (size_of_block bx)).trans bx) 2
  have cbx3 := Joins.cell_of_block ((HB.block _ (size_of_block bx)).trans bx) 3
  have cbx4 := Joins.cell_of_block ((HB.block _ (size_of_block bx)).trans bx) 4
  have cbp0 := Joins.cell_of_block ((HB.block _ (size_of_block bp)).trans bp) 0
  have cbp1 := Joins.cell_of_block ((HB.block _ (size_of_block bp)).trans bp) 1
  go_wp2_with fail
  generalize (w3.alloc (.cells #[.int .i64 R1.lo, .int .i64 R1.hi, .int .i64 R1.low, .int .i64 R1.high] 38)) = w4 at bn HB cbf0 cbf1 cbf2 cbf3 cbf4 cbx0 cbx1 cbx2 cbx3 cbx4 cbp0 cbp1 ⊢
  replace bf := (HB.block _ (size_of_block bf)).trans bf
  replace bx := (HB.block _ (size_of_block bx)).trans bx
  replace bp := (HB.block _ (size_of_block bp)).trans bp
  replace hk := hk.later HB
  replace hB := below_then hB HB
  clear HB
  refine (X2.out w4 hk).mono ?_
  rintro e w5 ⟨rfl, hF⟩
  clear cbf0 cbf1 cbf2 cbf3 cbf4 cbx0 cbx1 cbx2 cbx3 cbx4 cbp0 cbp1
  replace bf := (hF.block _ (size_of_block bf)).trans bf
  replace bx := (hF.block _ (size_of_block bx)).trans bx
  replace bp := (hF.block _ (size_of_block bp)).trans bp
  replace bn := (hF.block _ (size_of_block bn)).trans bn
  replace hk := hk.later hF
  replace hB := below_then hB hF
  clear hF
  have bt := heap_alloc_new w5 (.cells #[.int .i64 R2.lo, .int .i64 R2.hi, .int .i64 R2.low, .int .i64 R2.high] 38)
  have HB := below_alloc w5 (.cells #[.int .i64 R2.lo, .int .i64 R2.hi, .int .i64 R2.low, .int .i64 R2.high] 38)
  have cbf0 := Joins.cell_of_block ((HB.block _ (size_of_block bf)).trans bf) 0
  have cbf1 := Joins.cell_of_block ((HB.block _ (size_of_block bf)).trans bf) 1
  have cbf2 := Joins.cell_of_block ((HB.block _ (size_of_block bf)).trans bf) 2
  have cbf3 := Joins.cell_of_block ((HB.block _ (size_of_block bf)).trans bf) 3
  have cbf4 := Joins.cell_of_block ((HB.block _ (size_of_block bf)).trans bf) 4
  have cbx0 := Joins.cell_of_block ((HB.block _ (size_of_block bx)).trans bx) 0
  have cbx1 := Joins.cell_of_block ((HB.block _ (size_of_block bx)).trans bx) 1
  have cbx2 := Joins.cell_of_block ((HB.block _ (size_of_block bx)).trans bx) 2
  have cbx3 := Joins.cell_of_block ((HB.block _ (size_of_block bx)).trans bx) 3
  have cbx4 := Joins.cell_of_block ((HB.block _ (size_of_block bx)).trans bx) 4
  go_wp2_with fail
  generalize (w5.alloc (.cells #[.int .i64 R2.lo, .int .i64 R2.hi, .int .i64 R2.low, .int .i64 R2.high] 38)) = w6 at bt HB cbf0 cbf1 cbf2 cbf3 cbf4 cbx0 cbx1 cbx2 cbx3 cbx4 ⊢
  replace bf := (HB.block _ (size_of_block bf)).trans bf
  replace bx := (HB.block _ (size_of_block bx)).trans bx
  replace bp := (HB.block _ (size_of_block bp)).trans bp
  replace bn := (HB.block _ (size_of_block bn)).trans bn
  replace hk := hk.later HB
  replace hB := below_then hB HB
  clear HB
  refine (X3.out w6 hk).mono ?_
  rintro e w7 ⟨rfl, hF⟩
  clear cbf0 cbf1 cbf2 cbf3 cbf4 cbx0 cbx1 cbx2 cbx3 cbx4
  replace bf := (hF.block _ (size_of_block bf)).trans bf
  replace bx := (hF.block _ (size_of_block bx)).trans bx
  replace bp := (hF.block _ (size_of_block bp)).trans bp
  replace bn := (hF.block _ (size_of_block bn)).trans bn
  replace bt := (hF.block _ (size_of_block bt)).trans bt
  replace hk := hk.later hF
  replace hB := below_then hB hF
  clear hF
  clear bt
  obtain ⟨bo, -, -, -⟩ := two_new' w7 (.cells #[.int .i64 R3.lo, .int .i64 R3.hi, .int .i64 R3.low, .int .i64 R3.high] 38) (.cells #[.int .i64 x.id, .int .i64 x.foot, .int .i64 x.hour, .int .i64 x.lo, .int .i64 x.hi] 55)
  have HA := below_alloc w7 (.cells #[.int .i64 R3.lo, .int .i64 R3.hi, .int .i64 R3.low, .int .i64 R3.high] 38)
  obtain ⟨-, ys, -, HB⟩ := two_new' w7 (.cells #[.int .i64 R3.lo, .int .i64 R3.hi, .int .i64 R3.low, .int .i64 R3.high] 38) (.cells #[.int .i64 x.id, .int .i64 x.foot, .int .i64 x.hour, .int .i64 R3.lo, .int .i64 R3.hi] 55)
  have ca0 := Joins.cell_of_block ((HA.block _ (size_of_block bx)).trans bx) 0
  have ca1 := Joins.cell_of_block ((HA.block _ (size_of_block bx)).trans bx) 1
  have ca2 := Joins.cell_of_block ((HA.block _ (size_of_block bx)).trans bx) 2
  have ca3 := Joins.cell_of_block ((HA.block _ (size_of_block bx)).trans bx) 3
  have ca4 := Joins.cell_of_block ((HA.block _ (size_of_block bx)).trans bx) 4
  have cb0 := Joins.cell_of_block bo 0
  have cb1 := Joins.cell_of_block bo 1
  have cc0 := Joins.cell_of_block (heap_alloc_new w7 (.cells #[.int .i64 R3.lo, .int .i64 R3.hi, .int .i64 R3.low, .int .i64 R3.high] 38)) 0
  have cc1 := Joins.cell_of_block (heap_alloc_new w7 (.cells #[.int .i64 R3.lo, .int .i64 R3.hi, .int .i64 R3.low, .int .i64 R3.high] 38)) 1
  have cdbf0 := Joins.cell_of_block ((HB.block _ (size_of_block bf)).trans bf) 0
  have cdbf1 := Joins.cell_of_block ((HB.block _ (size_of_block bf)).trans bf) 1
  have cdbf2 := Joins.cell_of_block ((HB.block _ (size_of_block bf)).trans bf) 2
  have cdbf3 := Joins.cell_of_block ((HB.block _ (size_of_block bf)).trans bf) 3
  have cdbf4 := Joins.cell_of_block ((HB.block _ (size_of_block bf)).trans bf) 4
  have cdbp0 := Joins.cell_of_block ((HB.block _ (size_of_block bp)).trans bp) 0
  have cdbp1 := Joins.cell_of_block ((HB.block _ (size_of_block bp)).trans bp) 1
  have ce0 := Joins.cell_of_block ys 0
  have ce1 := Joins.cell_of_block ys 1
  have ce2 := Joins.cell_of_block ys 2
  have ce3 := Joins.cell_of_block ys 3
  have ce4 := Joins.cell_of_block ys 4
  go_wp2_with fail
  clear HA bo ca0 ca1 ca2 ca3 ca4 cb0 cb1 cc0 cc1
  generalize ((w7.alloc (.cells #[.int .i64 R3.lo, .int .i64 R3.hi, .int .i64 R3.low, .int .i64 R3.high] 38)).alloc (.cells #[.int .i64 x.id, .int .i64 x.foot, .int .i64 x.hour, .int .i64 R3.lo, .int .i64 R3.hi] 55)) = w8 at ys HB cdbf0 cdbf1 cdbf2 cdbf3 cdbf4 cdbp0 cdbp1 ce0 ce1 ce2 ce3 ce4 ⊢
  clear ys
  replace bf := (HB.block _ (size_of_block bf)).trans bf
  replace bx := (HB.block _ (size_of_block bx)).trans bx
  replace bp := (HB.block _ (size_of_block bp)).trans bp
  replace bn := (HB.block _ (size_of_block bn)).trans bn
  replace hk := hk.later HB
  replace hB := below_then hB HB
  clear HB
  refine (X4.out w8 hk).mono ?_
  rintro e w9 ⟨rfl, hF⟩
  clear cdbf0 cdbf1 cdbf2 cdbf3 cdbf4 cdbp0 cdbp1 ce0 ce1 ce2 ce3 ce4
  replace bf := (hF.block _ (size_of_block bf)).trans bf
  replace bx := (hF.block _ (size_of_block bx)).trans bx
  replace bp := (hF.block _ (size_of_block bp)).trans bp
  replace bn := (hF.block _ (size_of_block bn)).trans bn
  replace hk := hk.later hF
  replace hB := below_then hB hF
  clear hF
  have bs := heap_alloc_new w9 (.cells #[.int .i64 r0, .int .i64 r1, .int .i64 r2, .int .i64 r3] 38)
  have HB := below_alloc w9 (.cells #[.int .i64 r0, .int .i64 r1, .int .i64 r2, .int .i64 r3] 38)
  have cbf0 := Joins.cell_of_block ((HB.block _ (size_of_block bf)).trans bf) 0
  have cbf1 := Joins.cell_of_block ((HB.block _ (size_of_block bf)).trans bf) 1
  have cbf2 := Joins.cell_of_block ((HB.block _ (size_of_block bf)).trans bf) 2
  have cbf3 := Joins.cell_of_block ((HB.block _ (size_of_block bf)).trans bf) 3
  have cbf4 := Joins.cell_of_block ((HB.block _ (size_of_block bf)).trans bf) 4
  have cbp0 := Joins.cell_of_block ((HB.block _ (size_of_block bp)).trans bp) 0
  have cbp1 := Joins.cell_of_block ((HB.block _ (size_of_block bp)).trans bp) 1
  go_wp2_with fail
  generalize (w9.alloc (.cells #[.int .i64 r0, .int .i64 r1, .int .i64 r2, .int .i64 r3] 38)) = w10 at bs HB cbf0 cbf1 cbf2 cbf3 cbf4 cbp0 cbp1 ⊢
  replace bf := (HB.block _ (size_of_block bf)).trans bf
  replace bx := (HB.block _ (size_of_block bx)).trans bx
  replace bp := (HB.block _ (size_of_block bp)).trans bp
  replace bn := (HB.block _ (size_of_block bn)).trans bn
  replace hk := hk.later HB
  replace hB := below_then hB HB
  clear HB
  clear bs
  refine (X5.out w10 hk).mono ?_
  rintro e w11 ⟨s1, rfl, hs1, hF⟩
  clear cbf0 cbf1 cbf2 cbf3 cbf4 cbp0 cbp1
  replace bf := (hF.block _ (size_of_block bf)).trans bf
  replace bx := (hF.block _ (size_of_block bx)).trans bx
  replace bp := (hF.block _ (size_of_block bp)).trans bp
  replace bn := (hF.block _ (size_of_block bn)).trans bn
  replace hk := hk.later hF
  replace hB := below_then hB hF
  clear hF
  have hs := Ints.of_own hs1 (by have := HN.out; omega)
  clear hs1
  obtain ⟨As, caps, rfl, -, -⟩ := hs.open_
  have hi := builtL nC_len w11 [id] 3 #[.int .i64 id] w11.heap.size 1 rfl (by simp) rfl rfl
  have cbf0 := Joins.cell_of_block bf 0
  have cbf1 := Joins.cell_of_block bf 1
  have cbf2 := Joins.cell_of_block bf 2
  have cbf3 := Joins.cell_of_block bf 3
  have cbf4 := Joins.cell_of_block bf 4
  have HB := below_alloc w11 (.cells #[.int .i64 id] 3)
  have n0 := Joins.cell_of_block ((HB.block _ (size_of_block bf)).trans bf) 0
  have n1 := Joins.cell_of_block ((HB.block _ (size_of_block bf)).trans bf) 1
  have n2 := Joins.cell_of_block ((HB.block _ (size_of_block bf)).trans bf) 2
  have n3 := Joins.cell_of_block ((HB.block _ (size_of_block bf)).trans bf) 3
  have n4 := Joins.cell_of_block ((HB.block _ (size_of_block bf)).trans bf) 4
  go_wp2_with fail
  clear cbf0 cbf1 cbf2 cbf3 cbf4
  generalize w11.alloc (.cells #[.int .i64 id] 3) = w12 at hi HB n0 n1 n2 n3 n4 ⊢
  replace bf := (HB.block _ (size_of_block bf)).trans bf
  replace bx := (HB.block _ (size_of_block bx)).trans bx
  replace bp := (HB.block _ (size_of_block bp)).trans bp
  replace bn := (HB.block _ (size_of_block bn)).trans bn
  replace hk := hk.later HB
  replace hs := hs.later HB
  replace hB := below_then hB HB
  clear HB
  refine (X6.out w12 _ hk hi).mono ?_
  rintro e w13 ⟨lv, rfl, hlv, hF⟩
  clear n0 n1 n2 n3 n4
  replace bf := (hF.block _ (size_of_block bf)).trans bf
  replace bx := (hF.block _ (size_of_block bx)).trans bx
  replace bp := (hF.block _ (size_of_block bp)).trans bp
  replace bn := (hF.block _ (size_of_block bn)).trans bn
  replace hk := hk.later hF
  replace hs := hs.later hF
  replace hB := below_then hB hF
  clear hF hi
  have hf9 : ∃ (A : Option Addr) (n c : Nat), lv = .slice A n c := by
    obtain ⟨A, c, h⟩ := Sl.form hlv; exact ⟨_, _, _, h⟩
  obtain ⟨Al, nl, capl, rfl⟩ := hf9
  replace hlv : Sl lkC 5 w13 w13.heap.size (.slice Al nl capl) M := hlv
  have cz0 := Joins.cell_of_block (heap_alloc_new w13 (.cells #[.int .i64 f.rise, .int .i64 f.fall, .int .i64 f.up, .int .i64 f.down, .slice Al nl capl] 24)) 0
  have cz1 := Joins.cell_of_block (heap_alloc_new w13 (.cells #[.int .i64 f.rise, .int .i64 f.fall, .int .i64 f.up, .int .i64 f.down, .slice Al nl capl] 24)) 1
  have cz2 := Joins.cell_of_block (heap_alloc_new w13 (.cells #[.int .i64 f.rise, .int .i64 f.fall, .int .i64 f.up, .int .i64 f.down, .slice Al nl capl] 24)) 2
  have cz3 := Joins.cell_of_block (heap_alloc_new w13 (.cells #[.int .i64 f.rise, .int .i64 f.fall, .int .i64 f.up, .int .i64 f.down, .slice Al nl capl] 24)) 3
  have cz4 := Joins.cell_of_block (heap_alloc_new w13 (.cells #[.int .i64 f.rise, .int .i64 f.fall, .int .i64 f.up, .int .i64 f.down, .slice Al nl capl] 24)) 4
  have bl := heap_alloc_new w13 (.cells #[.int .i64 f.rise, .int .i64 f.fall, .int .i64 f.up, .int .i64 f.down, .slice Al nl capl] 24)
  have HB := below_alloc w13 (.cells #[.int .i64 f.rise, .int .i64 f.fall, .int .i64 f.up, .int .i64 f.down, .slice Al nl capl] 24)
  have cbp0 := Joins.cell_of_block ((HB.block _ (size_of_block bp)).trans bp) 0
  have cbp1 := Joins.cell_of_block ((HB.block _ (size_of_block bp)).trans bp) 1
  go_wp2_with fail
  generalize (w13.alloc (.cells #[.int .i64 f.rise, .int .i64 f.fall, .int .i64 f.up, .int .i64 f.down, .slice Al nl capl] 24)) = w14 at bl HB cbp0 cbp1 ⊢
  replace bf := (HB.block _ (size_of_block bf)).trans bf
  replace bx := (HB.block _ (size_of_block bx)).trans bx
  replace bp := (HB.block _ (size_of_block bp)).trans bp
  replace bn := (HB.block _ (size_of_block bn)).trans bn
  replace hk := hk.later HB
  replace hs := hs.later HB
  replace hlv := hlv.later HB
  replace hB := below_then hB HB
  clear HB
  clear cz0 cz1 cz2 cz3 cz4
  refine (X7.out w14 _ hlv).mono ?_
  rintro e w15 ⟨rfl, hF⟩
  clear cbp0 cbp1
  replace bf := (hF.block _ (size_of_block bf)).trans bf
  replace bx := (hF.block _ (size_of_block bx)).trans bx
  replace bp := (hF.block _ (size_of_block bp)).trans bp
  replace bn := (hF.block _ (size_of_block bn)).trans bn
  replace bl := (hF.block _ (size_of_block bl)).trans bl
  replace hk := hk.later hF
  replace hs := hs.later hF
  replace hlv := hlv.later hF
  replace hB := below_then hB hF
  clear hF
  clear bl
  have bb := heap_alloc_new w15 (.cells #[.int .i64 R5.lo, .int .i64 R5.hi, .int .i64 R5.low, .int .i64 R5.high] 38)
  have HB := below_alloc w15 (.cells #[.int .i64 R5.lo, .int .i64 R5.hi, .int .i64 R5.low, .int .i64 R5.high] 38)
  go_wp2_with fail
  generalize (w15.alloc (.cells #[.int .i64 R5.lo, .int .i64 R5.hi, .int .i64 R5.low, .int .i64 R5.high] 38)) = w16 at bb HB  ⊢
  replace bf := (HB.block _ (size_of_block bf)).trans bf
  replace bx := (HB.block _ (size_of_block bx)).trans bx
  replace bp := (HB.block _ (size_of_block bp)).trans bp
  replace bn := (HB.block _ (size_of_block bn)).trans bn
  replace hk := hk.later HB
  replace hs := hs.later HB
  replace hlv := hlv.later HB
  replace hB := below_then hB HB
  clear HB
  obtain ⟨AS, capS, hEq, -, -, hat⟩ := Ints.open_ hs
  cases hEq
  have HAT := Lib.hid hat
  clear hat
  have h24 := HN.out
  go_loopw [24, 25] (fun b i wr => ∃ j : Nat, j ≤ L.length ∧ i = .int .i64 j ∧ b = .bool ((L.take j).contains id) ∧ wr = w16) (fun _ i _ => L.length - (intOf i).toNat)
  case atStart => exact ⟨0, Nat.zero_le _, rfl, rfl, rfl⟩
  case round =>
    obtain ⟨j, hj, rfl, rfl, rfl⟩ := hrel
    by_cases hlt : j < L.length
    · obtain ⟨b9, off, x9, rfl, hb9, hx, d0⟩ := HAT.out j hlt
      have ht := Lib.hid (take_has hx id)
      clear hx
      cases hin : (L.take j).contains id with
      | true =>
        go_wp2_with fail
        go_roundw
        case rel => exact ⟨j + 1, by omega, by go_num, by rw [ht.out, hin]; rfl, trivial⟩
        case measure => simp [intOf]; omega
      | false =>
        go_wp2_with fail
        go_roundw
        case rel => exact ⟨j + 1, by omega, by go_num, by rw [ht.out, hin]; rfl, trivial⟩
        case measure => simp [intOf]; omega
    · obtain rfl : j = L.length := by omega
      rw [List.take_length]
      clear HAT
      go_wp2_with fail
      refine (sanity_c wr).mono ?_
      rintro e w17 ⟨rfl, hF⟩
      replace bf := (hF.block _ (size_of_block bf)).trans bf
      replace bx := (hF.block _ (size_of_block bx)).trans bx
      replace bp := (hF.block _ (size_of_block bp)).trans bp
      replace bn := (hF.block _ (size_of_block bn)).trans bn
      replace bb := (hF.block _ (size_of_block bb)).trans bb
      replace hk := hk.later hF
      replace hs := hs.later hF
      replace hlv := hlv.later hF
      replace hB := below_then hB hF
      clear hF
      have cbb0 := Joins.cell_of_block bb 0
      have cbb1 := Joins.cell_of_block bb 1
      have cbn0 := Joins.cell_of_block bn 0
      have cbn1 := Joins.cell_of_block bn 1
      go_wp2_with fail
      go_ret
      exact ⟨rfl, hB⟩
theorem FireMore_w (f : Fi) (vl : Value) (x : Lk) (p : Spt) (id : Int) (w : World) (hk : Lks w w.heap.size vl f.ls) : Calls Try.prog 5 #[fiV f vl, lkV x, sV p, .int .i64 id] w fun e w' => e = .returned (.bool true) ∧ Below w.heap.size w w' := by
  obtain ⟨A, cap, rfl⟩ := hk.form
  cases hfew : fewB f.ls.length with
  | false => exact FireMore_no f A _ cap x p id w hfew
  | true =>
  by_cases hE : endsE f p = 0
  · obtain ⟨R1, R5, hK⟩ := mor_math (x := x) (id := id) hE
    have hlen := rests_len (ends_zero hE).1 p
    by_cases hG : wouldE f x p = 0 <;> by_cases hH : endsE f x.at_ = 0
    · rcases hK.own hH ⟨x.id, x.foot, x.hour, (endsR f x.at_).lo, (endsR f x.at_).hi⟩ rfl rfl rfl with hI | hI
      · exact FireMore_g2 f A cap x p id w hk hfew hK hE hlen hG hH hI
      · exact FireMore_g3 f A cap x p id w hk hfew hK hE hlen hG hH hI
    · exact FireMore_g1 f A cap x p id w hk hfew hK hE hlen hG hH
    · rcases hK.own hH ⟨x.id, x.foot, x.hour, (endsR f x.at_).lo, (endsR f x.at_).hi⟩ rfl rfl rfl with hI | hI
      · exact FireMore_n2 f A cap x p id w hk hfew hK hE hlen hG hH hI
      · exact FireMore_n3 f A cap x p id w hk hfew hK hE hlen hG hH hI
    · exact FireMore_n1 f A cap x p id w hk hfew hK hE hlen hG hH
  · exact FireMore_a f A cap x p id w hk hfew hE
end Go.Proofs.Ytmiglaeabpaofaa
