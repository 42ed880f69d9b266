/- Texts joined: FProgAllows FProgFits. -/
import Derived.Test.YtjpoacffnpgjdaaGreatJ37
import Derived.Test.YtjpoacffnpgjdaaGreatJ17
import Derived.Test.YtjpoacffnpgjdaaGreatJ7
/- allows: whether spots can have the heats that a map tells, by the program (written by tools/genallows.py). -/
namespace Go.Proofs.YtjpoacffnpgjdaaGreat
open Go Go.RowKit Go.Shelf

theorem blk_lt {w : World} {i : Nat} {o : Obj} (h : w.heap[i]? = some o) : i < w.heap.size := by
  rcases Nat.lt_or_ge i w.heap.size with h1 | h1
  · exact h1
  · rw [Array.getElem?_eq_none h1] at h; cases h
theorem iterSeen_of {w : World} {i c s : Nat} {m : Option Nat} {seen : Array Nat} (h : w.heap[i]? = some (.mapIter m s seen c)) : w.iterSeen i = seen := by simp [World.iterSeen, h]
set_option maxRecDepth 100000 in
set_option maxHeartbeats 8000000 in
theorem allows_c (f : Fi) (S ls : List Lk) (gf : Nat) (lb : Array Value) (r : Nat) (T : List (Spt × Int)) (w : World) (h : SOk f S ls)
    (hG : Gives Tryz.prog w.heap.size 0 fireU (.func (.func gf) #[] lb) encLk S w) (hm : SMap w r T) (hT : ∀ p ∈ T, spotB p.1 = true ∧ 0 ≤ p.2 ∧ p.2 ≤ 1500) :
    Calls Tryz.prog 92 #[siV f (.func (.func gf) #[] lb), .map (some r)] w fun e w' => e = .returned (.bool (fitsB f ls T)) ∧ Below w.heap.size w w' := by
  have hrl := hm.lt
  obtain ⟨es, clock, hb, he, hn, hlt⟩ := hm
  have HE := Lib.hid he
  have HN := Lib.hid hn
  have HLT := Lib.hid hlt
  have HT := Lib.hid hT
  have hbd := fun p (hp : spotB p = true) W (hb : Below w.heap.size w W) => bounds_c f S ls gf lb p W h hp ((hG.later hb).more hb.size)
  have hfar := fun p q (hp : spotB p = true) (hq : spotB q = true) W => far_c f p q W h.slope hp hq
  have HSL := Lib.hid h.slope
  obtain ⟨B, hB0⟩ : ∃ b, b = fitsB f ls T := ⟨_, rfl⟩
  rw [← hB0]
  have HB0 := Lib.hid hB0
  unfold siV sV bndV bndI at hbd
  unfold sV slV at hfar
  have HBD := Lib.hid hbd
  have HFAR := Lib.hid hfar
  clear he hn hlt hT hbd hfar hB0 h hG
  have hfb := Tryz.fieldBnd0
  have q0 := heap_alloc_new w (.cells #[.int .i64 f.rise, .int .i64 f.fall, .int .i64 f.up, .int .i64 f.down, .func (.func gf) #[] lb] 114)
  have qb := below_alloc w (.cells #[.int .i64 f.rise, .int .i64 f.fall, .int .i64 f.up, .int .i64 f.down, .func (.func gf) #[] lb] 114)
  have b0 := (qb.block r hrl).trans hb
  have hrg := run_range_map (P := Tryz.prog) (w.alloc (.cells #[.int .i64 f.rise, .int .i64 f.fall, .int .i64 f.up, .int .i64 f.down, .func (.func gf) #[] lb] 114)) 149 _ _ r es clock Tryz.underlying149 b0
  have i1 : ((w.alloc (.cells #[.int .i64 f.rise, .int .i64 f.fall, .int .i64 f.up, .int .i64 f.down, .func (.func gf) #[] lb] 114)).alloc (.mapIter (some r) clock #[] clock)).heap[w.heap.size + 1]? = some (.mapIter (some r) clock #[] clock) := by simpa using heap_alloc_new (w.alloc (.cells #[.int .i64 f.rise, .int .i64 f.fall, .int .i64 f.up, .int .i64 f.down, .func (.func gf) #[] lb] 114)) (.mapIter (some r) clock #[] clock)
  have qb2 := below_alloc (w.alloc (.cells #[.int .i64 f.rise, .int .i64 f.fall, .int .i64 f.up, .int .i64 f.down, .func (.func gf) #[] lb] 114)) (.mapIter (some r) clock #[] clock)
  have q1 := (qb2.block _ (size_of_block q0)).trans q0
  have B1 := below_then qb qb2
  clear q0 qb qb2 b0
  unfold siV
  go_enter Tryz.func92, Tryz.ntmps92
  go_wp2_with fail
  clear hrg
  generalize (w.alloc (.cells #[.int .i64 f.rise, .int .i64 f.fall, .int .i64 f.up, .int .i64 f.down, .func (.func gf) #[] lb] 114)).alloc (.mapIter (some r) clock #[] clock) = W2 at i1 q1 B1 ⊢
  go_loopw [] (fun wr => ∃ seen c0, clock ≤ c0 ∧ wr.heap[w.heap.size + 1]? = some (.mapIter (some r) clock seen c0) ∧ Hid (SeenG es seen (fun p => (endLo f ls p.1 ≤ p.2 ∧ p.2 ≤ endHi f ls p.1) ∧ ∀ q ∈ T, q.2 ≤ p.2 + farI f p.1 q.1)) ∧ wr.heap[w.heap.size]? = some (.cells #[.int .i64 f.rise, .int .i64 f.fall, .int .i64 f.up, .int .i64 f.down, .func (.func gf) #[] lb] 114) ∧ Below w.heap.size w wr) (fun wr => (leftOf es (wr.iterSeen (w.heap.size + 1))).size)
  case atStart => exact ⟨#[], clock, Nat.le_refl _, i1, SeenG.start, q1, B1⟩
  case round =>
    clear i1 q1 B1
    obtain ⟨seen, c0, hsc, i1, hS, q1, B1⟩ := hrel
    have b1 := (B1.block r hrl).trans hb
    have z1 := Lib.hid (iterSeen_of i1)
    rcases next_s i1 b1 HE.out HLT.out hsc with ⟨hall, hnx⟩ | ⟨e, ⟨at_, hh⟩, hee, hp, hk, hv, hlf, W', hnx, i2, ht⟩
    · obtain rfl : B = true := by rw [HB0.out]; exact fits_iff.2 (hS.out.all hall HE.out)
      clear hall
      go_wp2_with fail
      go_ret
      exact ⟨rfl, B1⟩
    · have hps := HT.out _ hp
      simp only at hps hk hv hnx
      have b2 := (ht.block r (by omega)).trans b1
      have q2 := (ht.block w.heap.size (by omega)).trans q1
      have B2 := B1.trans (ht.below (by omega))
      have hen := entry_s (p := (at_, hh)) i2 b2 hee HN.out hk hv
      have HG1 := Lib.hid (fun hg => SeenG.push (p := (at_, hh)) hS.out HN.out hee hk hv hg)
      have HP := Lib.hid hp
      have HPS := Lib.hid hps
      have HLF := Lib.hid hlf
      simp only at hen
      unfold sV at hnx hen
      have zri := blk_lt i2
      have a3 := heap_alloc_new W' (.cells #[.int .i64 at_.foot, .int .i64 at_.hour] 26)
      have HB3 := below_alloc W' (.cells #[.int .i64 at_.foot, .int .i64 at_.hour] 26)
      have c0' := Joins.cell_of_block ((HB3.block _ (size_of_block q2)).trans q2) 0
      have c1' := Joins.cell_of_block ((HB3.block _ (size_of_block q2)).trans q2) 1
      have c2' := Joins.cell_of_block ((HB3.block _ (size_of_block q2)).trans q2) 2
      have c3' := Joins.cell_of_block ((HB3.block _ (size_of_block q2)).trans q2) 3
      have c4' := Joins.cell_of_block ((HB3.block _ (size_of_block q2)).trans q2) 4
      have d0' := Joins.cell_of_block a3 0
      have d1' := Joins.cell_of_block a3 1
      clear hS hee hp hk hv hlf ht hps i1 q1 b1
      go_wp2_with fail
      generalize W'.alloc (.cells #[.int .i64 at_.foot, .int .i64 at_.hour] 26) = W3 at a3 HB3 c0' c1' c2' c3' c4' d0' d1' ⊢
      clear hnx hen
      have i3 := (HB3.block _ (blk_lt i2)).trans i2
      have q3 := (HB3.block _ (size_of_block q2)).trans q2
      have B3 := below_then B2 HB3
      clear HB3 i2 q2 B2 b2
      refine (HBD.out at_ HPS.out.1 W3 B3).mono ?_
      rintro e4 W4 ⟨rfl, hF⟩
      have i4 := (hF.block _ (blk_lt i3)).trans i3
      have q4 := (hF.block _ (size_of_block q3)).trans q3
      have a4 := (hF.block _ (size_of_block a3)).trans a3
      have B4 := below_then B3 hF
      clear hF c0' c1' c2' c3' c4' d0' d1' i3 q3 a3 B3
      have HB5 := below_alloc W4 (.cells #[.int .i64 (endLo f ls at_), .int .i64 (endHi f ls at_)] 54)
      have e5 := heap_alloc_new W4 (.cells #[.int .i64 (endLo f ls at_), .int .i64 (endHi f ls at_)] 54)
      have f0 := Joins.cell_of_block e5 0
      have f1 := Joins.cell_of_block e5 1
      have zat := size_of_block a4
      by_cases hgood : endLo f ls at_ ≤ hh ∧ hh ≤ endHi f ls at_
      · have d1 : decide (hh < endLo f ls at_) = false := decide_eq_false (by omega)
        have d2 : decide (endHi f ls at_ < hh) = false := decide_eq_false (by omega)
        have HGD := Lib.hid hgood
        clear hgood
        have b5 := ((below_then B4 HB5).block r hrl).trans hb
        have hrg := run_range_map (P := Tryz.prog) (W4.alloc (.cells #[.int .i64 (endLo f ls at_), .int .i64 (endHi f ls at_)] 54)) 149 _ _ r es clock Tryz.underlying149 b5
        have i6 : ((W4.alloc (.cells #[.int .i64 (endLo f ls at_), .int .i64 (endHi f ls at_)] 54)).alloc (.mapIter (some r) clock #[] clock)).heap[W4.heap.size + 1]? = some (.mapIter (some r) clock #[] clock) := by simpa using heap_alloc_new (W4.alloc (.cells #[.int .i64 (endLo f ls at_), .int .i64 (endHi f ls at_)] 54)) (.mapIter (some r) clock #[] clock)
        have hb6 := below_then HB5 (below_alloc (W4.alloc (.cells #[.int .i64 (endLo f ls at_), .int .i64 (endHi f ls at_)] 54)) (.mapIter (some r) clock #[] clock))
        have q6 := (hb6.block _ (size_of_block q4)).trans q4
        have a6 := (hb6.block _ (size_of_block a4)).trans a4
        have o6 := (hb6.block _ (blk_lt i4)).trans i4
        have B6 := below_then B4 hb6
        clear HB5 e5 b5 hb6 q4 a4 i4 B4
        go_wp2_with fail
        clear hrg f0 f1 d1 d2
        generalize (W4.alloc (.cells #[.int .i64 (endLo f ls at_), .int .i64 (endHi f ls at_)] 54)).alloc (.mapIter (some r) clock #[] clock) = W6 at i6 q6 a6 o6 B6 ⊢
        obtain ⟨wo, rfl⟩ : ∃ wo : World, wo = wr := ⟨_, rfl⟩
        go_loopw [] (fun wr => ∃ seen2 c2, clock ≤ c2 ∧ wr.heap[W4.heap.size + 1]? = some (.mapIter (some r) clock seen2 c2) ∧ Hid (SeenG es seen2 (fun q => q.2 ≤ hh + farI f at_ q.1)) ∧ wr.heap[w.heap.size + 1]? = some (.mapIter (some r) clock (seen.push e.born) clock) ∧ wr.heap[w.heap.size]? = some (.cells #[.int .i64 f.rise, .int .i64 f.fall, .int .i64 f.up, .int .i64 f.down, .func (.func gf) #[] lb] 114) ∧ wr.heap[W'.heap.size]? = some (.cells #[.int .i64 at_.foot, .int .i64 at_.hour] 26) ∧ Below w.heap.size w wr) (fun wr => (leftOf es (wr.iterSeen (W4.heap.size + 1))).size)
        case atStart => exact ⟨#[], clock, Nat.le_refl _, i6, SeenG.start, o6, q6, a6, B6⟩
        case round =>
          clear i6 q6 a6 o6 B6
          obtain ⟨seen2, c2, hsc2, i6, hS2, o6, q6, a6, B6⟩ := hrel
          have b6 := (B6.block r hrl).trans hb
          have z2 := Lib.hid (iterSeen_of i6)
          have z3 := Lib.hid (iterSeen_of o6)
          rcases next_s i6 b6 HE.out HLT.out hsc2 with ⟨hall, hnx⟩ | ⟨e2, ⟨oth, h2⟩, hee2, hp2, hk2, hv2, hlf2, W7, hnx, i7, ht⟩
          · have HA := Lib.hid (hS2.out.all hall HE.out)
            clear hall
            go_wp2_with fail
            go_roundw
            case rel => exact ⟨seen.push e.born, clock, Nat.le_refl _, o6, HG1.out ⟨HGD.out, HA.out⟩, q6, B6⟩
            case measure => rw [z3.out, z1.out]; exact HLF.out
          · have hqs := HT.out _ hp2
            simp only at hqs hk2 hv2 hnx
            have b7 := (ht.block r (by omega)).trans b6
            have q7 := (ht.block w.heap.size (by omega)).trans q6
            have o7 := (ht.block (w.heap.size + 1) (by omega)).trans o6
            have a7 := (ht.block W'.heap.size (by omega)).trans a6
            have B7 := B6.trans (ht.below (by omega))
            have hen := entry_s (p := (oth, h2)) i7 b7 hee2 HN.out hk2 hv2
            have HG2 := Lib.hid (fun hg => SeenG.push (p := (oth, h2)) hS2.out HN.out hee2 hk2 hv2 hg)
            have HP2 := Lib.hid hp2
            have HQS := Lib.hid hqs
            have HLF2 := Lib.hid hlf2
            simp only at hen
            unfold sV at hnx hen
            have n8 := heap_alloc_new W7 (.cells #[.int .i64 oth.foot, .int .i64 oth.hour] 26)
            have HB8 := below_alloc W7 (.cells #[.int .i64 oth.foot, .int .i64 oth.hour] 26)
            have c0' := Joins.cell_of_block ((HB8.block _ (size_of_block q7)).trans q7) 0
            have c1' := Joins.cell_of_block ((HB8.block _ (size_of_block q7)).trans q7) 1
            have c2' := Joins.cell_of_block ((HB8.block _ (size_of_block q7)).trans q7) 2
            have c3' := Joins.cell_of_block ((HB8.block _ (size_of_block q7)).trans q7) 3
            have d0' := Joins.cell_of_block ((HB8.block _ (size_of_block a7)).trans a7) 0
            have d1' := Joins.cell_of_block ((HB8.block _ (size_of_block a7)).trans a7) 1
            have g0' := Joins.cell_of_block n8 0
            have g1' := Joins.cell_of_block n8 1
            clear hS2 hee2 hp2 hk2 hv2 hlf2 ht hqs i6 q6 o6 a6 b6 b7 B6
            go_wp2_with fail
            generalize W7.alloc (.cells #[.int .i64 oth.foot, .int .i64 oth.hour] 26) = W8 at n8 HB8 c0' c1' c2' c3' d0' d1' g0' g1' ⊢
            clear hnx hen
            have i8 := (HB8.block _ (blk_lt i7)).trans i7
            have q8 := (HB8.block _ (size_of_block q7)).trans q7
            have o8 := (HB8.block _ (blk_lt o7)).trans o7
            have a8 := (HB8.block _ (size_of_block a7)).trans a7
            have B8 := below_then B7 HB8
            clear HB8 i7 q7 o7 a7 B7 n8
            have fb := far_bounds HSL.out HPS.out.1 HQS.out.1
            refine (HFAR.out at_ oth HPS.out.1 HQS.out.1 W8).mono ?_
            rintro e9 W9 ⟨rfl, hF⟩
            have i9 := (hF.block _ (blk_lt i8)).trans i8
            have q9 := (hF.block _ (size_of_block q8)).trans q8
            have o9 := (hF.block _ (blk_lt o8)).trans o8
            have a9 := (hF.block _ (size_of_block a8)).trans a8
            have B9 := below_then B8 hF
            clear hF c0' c1' c2' c3' d0' d1' g0' g1' i8 q8 o8 a8 B8
            have hr1 := HPS.out.2
            have hw : IntKind.i64.wrap (hh + farI f at_ oth) = hh + farI f at_ oth := by rw [IntKind.wrap_i64]; omega
            have z9 := Lib.hid (iterSeen_of i9)
            by_cases hg2 : h2 ≤ hh + farI f at_ oth
            · have d3 : decide (hh + farI f at_ oth < h2) = false := decide_eq_false (by omega)
              have HG3 := Lib.hid (HG2.out hg2)
              clear hg2 fb hr1
              go_wp2_with fail
              go_roundw
              case rel => exact ⟨seen2.push e2.born, clock, Nat.le_refl _, i9, HG3.out, o9, q9, a9, B9⟩
              case measure => rw [z9.out, z2.out]; exact HLF2.out
            · have d3 : decide (hh + farI f at_ oth < h2) = true := decide_eq_true (by omega)
              obtain rfl : B = false := by
                rw [HB0.out, Bool.eq_false_iff]; intro H
                exact hg2 (((fits_iff.1 H) (at_, hh) HP.out).2 (oth, h2) HP2.out)
              clear hg2 fb hr1
              go_wp2_with fail
              go_ret
              exact ⟨rfl, B9⟩
      · obtain rfl : B = false := by
          rw [HB0.out, Bool.eq_false_iff]; intro H
          exact hgood ((fits_iff.1 H) (at_, hh) HP.out).1
        by_cases hl1 : hh < endLo f ls at_
        · have d1 : decide (hh < endLo f ls at_) = true := decide_eq_true hl1
          clear hgood hl1
          go_wp2_with fail
          go_ret
          exact ⟨rfl, below_then B4 HB5⟩
        · have d1 : decide (hh < endLo f ls at_) = false := decide_eq_false hl1
          have d2 : decide (endHi f ls at_ < hh) = true := decide_eq_true (by omega)
          clear hgood hl1
          go_wp2_with fail
          go_ret
          exact ⟨rfl, below_then B4 HB5⟩
end Go.Proofs.YtjpoacffnpgjdaaGreat
/- Fits: by the program (written by tools/genfits.py). -/
namespace Go.Proofs.YtjpoacffnpgjdaaGreat
open Go Go.RowKit Go.Shelf
attribute [local go_sem] Oper.semAt_some Rel RelAt RelUpon

theorem lookS_none {x : Spt} {T : List (Spt × Int)} (h : lookS x T = none) : ∀ a ∈ T, a.1 ≠ x := by
  intro a ha e
  unfold lookS at h
  rw [Option.map_eq_none_iff, List.find?_eq_none] at h
  exact h a ha (sBeq_iff.2 e.symm)
theorem lookS_some {x : Spt} {T : List (Spt × Int)} {v : Int} (h : lookS x T = some v) : (x, v) ∈ T := by
  unfold lookS at h
  rw [Option.map_eq_some_iff] at h
  obtain ⟨a, h1, h2⟩ := h
  have e0 := List.find?_some h1
  have e := sBeq_iff.1 e0
  have := List.mem_of_find?_eq_some h1
  rw [e, ← h2]; exact this
theorem zeroIntF (w : World) : (zeroValue 3).run Tryz.prog w = .ok (.int .i64 0) w := by kernel_rfl
theorem zip_snoc {l : List Spt} {hs : List Int} {j : Nat} {p : Spt} {h : Int} (hp : l[j]? = some p) (hh : hs[j]? = some h) : (l.zip hs).take (j + 1) = (l.zip hs).take j ++ [(p, h)] := by
  rw [List.take_add_one]
  congr 1
  rw [(List.getElem?_zip_eq_some (z := (p, h))).2 ⟨hp, hh⟩]; rfl
set_option maxRecDepth 100000 in
set_option maxHeartbeats 8000000 in
theorem Fits_c (f : Fi) (vl v u : Value) (l : List Spt) (hs : List Int) (w : World) (hl : Lks w w.heap.size vl f.ls) (hv : Spts w w.heap.size v l) (hu : Ints w w.heap.size u hs) :
    Calls Tryz.prog 35 #[fiV f vl, v, u] w fun e w' => e = .returned (.tuple #[.bool (fitsR f l hs), .int .i64 (fitsE f l hs)]) ∧ Below w.heap.size w w' := by
  obtain ⟨A, cap, rfl⟩ := hl.form
  have HV := Lib.hid hv
  have HU := Lib.hid hu
  obtain ⟨A2, cap2, rfl, _, hn2, hat2⟩ := hv.open_
  obtain ⟨A3, cap3, rfl, _, hn3, hat3⟩ := Ints.open_ hu
  have H2 := Lib.hid hat2
  have H3 := Lib.hid hat3
  clear hat2 hat3 hv hu
  have q0 := heap_alloc_new w (.cells #[.int .i64 f.rise, .int .i64 f.fall, .int .i64 f.up, .int .i64 f.down, .slice A f.ls.length cap] 24)
  have qb := below_alloc w (.cells #[.int .i64 f.rise, .int .i64 f.fall, .int .i64 f.up, .int .i64 f.down, .slice A f.ls.length cap] 24)
  have qs := World.size_alloc w (.cells #[.int .i64 f.rise, .int .i64 f.fall, .int .i64 f.up, .int .i64 f.down, .slice A f.ls.length cap] 24)
  have hK' := fun ve errs W (hb : Below w.heap.size w W) => known_c f (.slice A f.ls.length cap) ve errs W (hl.later hb)
  obtain ⟨R, hR⟩ : ∃ b, b = fitsR f l hs := ⟨_, rfl⟩
  rw [← hR]
  have HR := Lib.hid hR
  clear hR
  unfold fiV at hK' ⊢
  go_enter Tryz.func35, Tryz.ntmps35
  go_wp2_with fail
  have QS := Lib.hid qs
  clear qs
  generalize w.alloc _ = W3 at q0 QS qb ⊢
  generalize hpe1 : spotsI l = pe1
  generalize hpe2 : toldE l hs = pe2
  refine wp_region_looseT [0, 1, 3, 4] (.one 2 (.one 5 (.one 6 (.one 7 .done)))) [11] [8, 9, 10] [12, 13] [some 8] [.cells #[.int .i64 0, .int .i64 0, .int .i64 0, .int .i64 0, .nilFunc] 114] (by kernel_rfl) (by kernel_rfl) (by intro c a d v w h; cases d <;> exact h) (by intro c a d v w h; cases d <;> exact h) rfl ?_ ?_
  · intro r i hri
    match r, hri with
    | 0, hri => cases hri; exact ⟨_, _, rfl, rfl, rfl, rfl, fun a u => by simp [execOp, go_sem, ptrV]⟩
  · intro u hu
    replace q0 := (hu.block _ (size_of_block q0)).trans q0
    replace qb := below_then qb hu
    have zq0 := size_of_block q0
    have cq00 := Joins.cell_of_block q0 0
    have cq01 := Joins.cell_of_block q0 1
    have cq02 := Joins.cell_of_block q0 2
    have cq03 := Joins.cell_of_block q0 3
    have cq04 := Joins.cell_of_block q0 4
    have hcg : ∀ (g : Gr u) b o, b < u.heap.size → g.val.cell? ⟨b, o, none⟩ = u.cell? ⟨b, o, none⟩ := fun g b o h => (bcell g.b).1 b o h
    simp only [pick, List.filterMap_cons, List.filterMap_nil, List.getElem?_toArray, List.getElem?_cons_succ, List.getElem?_cons_zero]
    iterate 4 (refine wpRel_step (fun K hK => ?_); go_simp; refine hK _ ?_; clear hK K)
    refine wpRel_nil fun V0 hb0 => ?_
    clear hcg cq00 cq01 cq02 cq03 cq04
    have C0 := below_then qb hb0
    have D0 := hb0
    refine wpTr_step rfl rfl fun K hK => ?_
    go_simp
    refine (checkList_c _ l V0 (HV.out.later C0)).mono ?_
    rintro e X0 ⟨rfl, hx0⟩
    rw [hpe1]
    refine hK _ _ hx0 fun V1 hu1 => ?_
    clear hK K
    have S1 := below_then hx0 hu1
    have C1 := below_then C0 S1
    have D1 := below_then D0 S1
    refine wpTr_step rfl rfl fun K hK => ?_
    go_simp
    refine (checkTold_c _ _ l hs V1 (HV.out.later C1) (HU.out.later C1)).mono ?_
    rintro e X1 ⟨rfl, hx1⟩
    rw [hpe2]
    refine hK _ _ hx1 fun V2 hu2 => ?_
    clear hK K
    have S2 := below_then hx1 hu2
    have C2 := below_then C1 S2
    have D2 := below_then D1 S2
    refine wpTr_step rfl rfl fun K hK => ?_
    go_simp
    refine hK _ _ (below_alloc _ _) fun V3 hu3 => ?_
    clear hK K
    have ye := (hu3.block _ (by simp)).trans (heap_alloc_new V2 (.cells #[.int .i64 pe1, .int .i64 pe2] 30))
    have S3 := below_then (below_alloc V2 (.cells #[.int .i64 pe1, .int .i64 pe2] 30)) hu3
    have C3 := below_then C2 S3
    have D3 := below_then D2 S3
    refine wpTr_step rfl rfl fun K hK => ?_
    go_simp
    refine (hK' _ [pe1, pe2] V3 C3 (ints2 ye)).mono ?_
    rintro e X3 ⟨sv, rfl, hz, hn, hx3⟩
    refine hK _ _ hx3 fun V4 hu4 => ?_
    clear hK K
    have S4 := below_then hx3 hu4
    have C4 := below_then C3 S4
    have D4 := below_then D3 S4
    replace ye := (S4.block _ (size_of_block ye)).trans ye
    obtain ⟨row, hrow, h5, h1c⟩ := sight_row hz hn
    have N10 : Hid (∀ k, k < X3.heap.size → V4.heap[k]? = X3.heap[k]?) := fun k h => hu4.block k h
    have Qq0 := (D4.block _ zq0).trans q0
    have n10 := hu4.size
    have n9 := hx3.size
    clear ye C0 C1 C2 C3 D0 D1 D2 D3 D4 S1 S2 S3 S4 hu1 hu2 hu3 hu4 hK' hb0 q0
    have HZ := Lib.hid hz
    have HN := Lib.hid hn
    have HROW := Lib.hid hrow
    clear hz hn
    generalize hke : knownE f [pe1, pe2] = ke at HZ HN ⊢
    rw [hrow]
    refine wpPure_step (.tuple #[.agg row, .int .i64 ke]) rfl (fun u => rfl) ?_
    refine wpPure_step (.agg row) rfl (fun u => rfl) ?_
    refine wpPure_step (.int .i64 ke) rfl (fun u => rfl) ?_
    intro ks hk hall hH
    obtain ⟨k1, rfl⟩ : ∃ k1, ks = [some k1] := by
      match ks, hk with
      | [none], _ => exact absurd rfl (hall 0)
      | [some k1], _ => exact ⟨k1, rfl⟩
    obtain ⟨o1, ge1, lt1⟩ := hH.obj 0 k1 rfl
    have ou := hH.out 0 k1 rfl (V3.heap.size, X3.heap.size) (by simp)
    rw [show ([Obj.cells #[.int .i64 0, .int .i64 0, .int .i64 0, .int .i64 0, .nilFunc] 114])[0]? = some (.cells #[.int .i64 0, .int .i64 0, .int .i64 0, .int .i64 0, .nilFunc] 114) from rfl] at o1
    rw [QS.out] at ge1
    clear hH hall hk
    have hkq0 : k1 ≠ w.heap.size := by omega
    show wpList _ _ _ _ _ _
    simp only [deco, ptrV]
    refine wpList_store_rowTo rfl 114 _ _ rfl rfl k1 row rfl rfl 114 _ o1 (by rw [Tryz.zSightSize, h5]) (by rw [h5]; rfl) h1c ?_
    have r1 := setRow_heap V4 k1 _ row _ _ o1
    have rq0 := (setRow_other V4 k1 (w.heap.size) row (Ne.symm hkq0)).trans Qq0
    have B11 := below_setRow C4 (show w.heap.size ≤ k1 by omega) row
    have K11 : Hid (∀ k, V3.heap.size ≤ k → k < X3.heap.size → (V4.setRow k1 row).heap[k]? = X3.heap[k]?) := fun k h1 h2 => (setRow_other V4 k1 k row (by omega)).trans (N10.out k h2)
    have z11 := size_setRow V4 k1 row
    have n11 : X3.heap.size ≤ (V4.setRow k1 row).heap.size := by omega
    generalize V4.setRow k1 row = W11 at r1 rq0 B11 K11 n11 z11 ⊢
    clear o1 Qq0 C4 N10 z11 n10 n9 ou lt1
    have HE : Hid (fitsE f l hs = ke) := by show fitsE f l hs = ke; unfold fitsE; rw [hpe1, hpe2, hke]
    by_cases h0 : ke = 0
    · obtain ⟨S, hS, hKn⟩ := HZ.out h0
      obtain ⟨gf, lb, hform⟩ := hKn.form
      have hgv := hKn.gives gf lb hform W11 (fun k h1 h2 => K11.out k h1 h2) n11
      obtain rfl : row = #[.int .i64 f.rise, .int .i64 f.fall, .int .i64 f.up, .int .i64 f.down, .func (.func gf) #[] lb] := by
        have e := HROW.out.symm.trans hform
        simpa [siV] using e
      subst h0
      have hsp : l.length ≤ 24 ∧ ∀ p ∈ l, spotB p = true := by
        have h1 := (first2.1 (known_zero hke).2.1).1
        rw [← hpe1] at h1
        exact spotsI_iff.1 h1
      have hht : l.length = hs.length ∧ hs.all heatB = true := by
        have h1 := (first2.1 (known_zero hke).2.1).2
        rw [← hpe2] at h1
        unfold toldE at h1
        by_cases h2 : l.length ≠ hs.length
        · rw [if_pos h2] at h1; cases h1
        · rw [if_neg h2] at h1
          refine ⟨by omega, ?_⟩
          cases h3 : hs.all heatB with
          | true => rfl
          | false => rw [h3] at h1; cases h1
      have HRR : Hid (R = fitsB f f.ls (l.zip hs)) := by show R = _; rw [HR.out]; unfold fitsR; rw [if_pos HE.out]
      have HSP := Lib.hid hsp
      have HHT := Lib.hid hht
      have HS := Lib.hid hS
      have HG := Lib.hid hgv
      have hlen24 := hsp.1
      have HLH := Lib.hid hht.1
      clear hgv hKn hform HZ HN HROW K11 hS hpe1 hpe2 hke h5 h1c hsp hht rq0 n11
      have R1 := Lib.hid r1
      have zk1 := size_of_block r1
      have B11' := Lib.hid B11
      have M0 := SMap.made W11
      have D0 := below_alloc W11 (.map #[] 0)
      have hmm := @run_makeMap Tryz.prog
      have z110 := B11.size
      clear r1 B11
      go_wp2_with fail
      clear hmm
      generalize W11.alloc (.map #[] 0) = W12 at M0 D0 ⊢
      go_loopw [32] (fun i wr => ∃ (j : Nat) (T : List (Spt × Int)), j ≤ l.length ∧ i = .int .i64 j ∧ SMap wr W11.heap.size T ∧ Hid (∀ a, a ∈ T ↔ a ∈ (l.zip hs).take j) ∧ Below W11.heap.size W11 wr) (fun i _ => l.length - (intOf i).toNat)
      case atStart => exact ⟨0, [], Nat.zero_le _, rfl, M0, by intro a; simp, D0⟩
      case round =>
        clear M0 D0
        obtain ⟨j, T, hj, rfl, hm, HT, hD⟩ := hrel
        by_cases hlt : j < l.length
        · obtain ⟨b2, off2, p, rfl, hb2, hx2, x0, x1⟩ := H2.out j hlt
          obtain ⟨b3, off3, h, rfl, hb3, hx3, y0⟩ := H3.out j (by have := HLH.out; omega)
          have hlt3 : j < hs.length := by have := HLH.out; omega
          have HZS := Lib.hid (zip_snoc hx2 hx3)
          have HPL := Lib.hid (List.mem_of_getElem? hx2)
          have c0 := (hD.cell (p := ⟨b2, off2 + j * 2, none⟩) (Nat.lt_of_lt_of_le hb2 z110)).trans ((B11'.out.cell (p := ⟨b2, off2 + j * 2, none⟩) hb2).trans x0)
          have c1 := (hD.cell (p := ⟨b2, off2 + j * 2 + 1, none⟩) (Nat.lt_of_lt_of_le hb2 z110)).trans ((B11'.out.cell (p := ⟨b2, off2 + j * 2 + 1, none⟩) hb2).trans x1)
          have hbz := hD.size
          have HB := below_alloc wr (.cells #[.int .i64 p.foot, .int .i64 p.hour] 26)
          have a1 := heap_alloc_new wr (.cells #[.int .i64 p.foot, .int .i64 p.hour] 26)
          have g0 := Joins.cell_of_block a1 0
          have g1 := Joins.cell_of_block a1 1
          have m1 := hm.later HB
          have e0 := (HB.cell (p := ⟨b3, off3 + j, none⟩) (by show b3 < wr.heap.size; omega)).trans ((hD.cell (p := ⟨b3, off3 + j, none⟩) (Nat.lt_of_lt_of_le hb3 z110)).trans ((B11'.out.cell (p := ⟨b3, off3 + j, none⟩) hb3).trans y0))
          have hz3 : b3 < (wr.alloc (.cells #[.int .i64 p.foot, .int .i64 p.hour] 26)).heap.size := by simp; omega
          have D2 := below_then hD HB
          have hlk := lookup_s Tryz.underlying149 zeroIntF m1 p
          unfold sV at hlk
          have hzb : b2 < wr.heap.size := by omega
          clear x0 x1 y0 hx2 hx3 hm hD HB
          cases hlo : lookS p T with
          | none =>
            rw [hlo] at hlk
            simp only [Option.getD_none, Option.isSome_none] at hlk
            have HLO := Lib.hid hlo
            clear hlo
            have e0' := e0
            have a2 := a1
            have m2 := m1
            clear a1 m1
            go_wp2_with fail
            refine wp_region_looseM [0, 2, 3] [1, 4, 5] .done [] [] [6] [] [] (by kernel_rfl) (by kernel_rfl) (by intro c a d v w h; cases d <;> exact h) (by intro c a d v w h; cases d <;> exact h) rfl (fun r i h => by simp at h) ?_
            simp only [pick, List.filterMap_cons, List.filterMap_nil, List.getElem?_toArray, List.getElem?_cons_succ, List.getElem?_cons_zero]
            refine wpPure_step (.map (some W11.heap.size)) rfl (fun u => rfl) ?_
            refine wpPure_step (.slice (some ⟨b3, off3, none⟩) hs.length cap3) rfl (fun u => rfl) ?_
            refine wpPure_step (.int .i64 j) rfl (fun u => rfl) ?_
            intro u12 hu12
            clear g0 g1 e0
            have t2 := (hu12.block _ (size_of_block a2)).trans a2
            have zt2 := size_of_block t2
            have s0 := Joins.cell_of_block t2 0
            have s1 := Joins.cell_of_block t2 1
            have e0 := (hu12.cell (p := ⟨b3, off3 + j, none⟩) hz3).trans e0'
            have hz4 : b3 < u12.heap.size := Nat.lt_of_lt_of_le hz3 hu12.size
            have hcg : ∀ (g : Gr u12) b o, b < u12.heap.size → g.val.cell? ⟨b, o, none⟩ = u12.cell? ⟨b, o, none⟩ := fun g b o h => (bcell g.b).1 b o h
            iterate 3 (refine wpRel_step (fun K hK => ?_); go_simp; refine hK _ ?_; clear hK K)
            refine wpRel_nil fun V0 hb0 => ?_
            clear hcg s0 s1 e0 zt2 t2 hz4
            have D3 := below_then D2 (below_then hu12 hb0)
            have m3 := m2.later (below_then hu12 hb0)
            clear hu12 hb0 m2 a2 e0' hz3
            obtain ⟨W4, hrun, m4, hg4⟩ := update_new Tryz.underlying149 m3 p HLO.out h
            have D4 := D3.grown hg4 (Nat.le_of_lt (m3.lt)) (fun k e => by cases e; exact Nat.le_refl _)
            unfold sV at hrun
            clear hg4 m3 D3
            show wpPure _ _ _ _
            intro ks hks _ _
            obtain rfl : ks = [] := List.length_eq_zero_iff.1 hks
            clear hks
            show wpList _ _ _ _ _ _
            simp only [deco]
            go_wp2_with fail
            go_roundw
            case rel => exact ⟨j + 1, T ++ [(p, h)], by omega, by go_num, m4, by intro a; rw [HZS.out, List.mem_append, List.mem_append, HT.out a], D4⟩
            case measure => simp [intOf]; omega
          | some v9 =>
            rw [hlo] at hlk
            simp only [Option.getD_some, Option.isSome_some] at hlk
            have HLO := Lib.hid hlo
            clear hlo
            by_cases hvh : v9 = h
            · subst hvh
              have d9 : (v9 != v9) = false := by simp
              have e0' := e0
              have a2 := a1
              have m2 := m1
              clear a1 m1
              go_wp2_with fail
              refine wp_region_looseM [0, 2, 3] [1, 4, 5] .done [] [] [6] [] [] (by kernel_rfl) (by kernel_rfl) (by intro c a d v w h; cases d <;> exact h) (by intro c a d v w h; cases d <;> exact h) rfl (fun r i h => by simp at h) ?_
              simp only [pick, List.filterMap_cons, List.filterMap_nil, List.getElem?_toArray, List.getElem?_cons_succ, List.getElem?_cons_zero]
              refine wpPure_step (.map (some W11.heap.size)) rfl (fun u => rfl) ?_
              refine wpPure_step (.slice (some ⟨b3, off3, none⟩) hs.length cap3) rfl (fun u => rfl) ?_
              refine wpPure_step (.int .i64 j) rfl (fun u => rfl) ?_
              intro u12 hu12
              clear g0 g1 e0
              have t2 := (hu12.block _ (size_of_block a2)).trans a2
              have zt2 := size_of_block t2
              have s0 := Joins.cell_of_block t2 0
              have s1 := Joins.cell_of_block t2 1
              have e0 := (hu12.cell (p := ⟨b3, off3 + j, none⟩) hz3).trans e0'
              have hz4 : b3 < u12.heap.size := Nat.lt_of_lt_of_le hz3 hu12.size
              have hcg : ∀ (g : Gr u12) b o, b < u12.heap.size → g.val.cell? ⟨b, o, none⟩ = u12.cell? ⟨b, o, none⟩ := fun g b o h => (bcell g.b).1 b o h
              iterate 3 (refine wpRel_step (fun K hK => ?_); go_simp; refine hK _ ?_; clear hK K)
              refine wpRel_nil fun V0 hb0 => ?_
              clear hcg s0 s1 e0 zt2 t2 hz4
              have D3 := below_then D2 (below_then hu12 hb0)
              have m3 := m2.later (below_then hu12 hb0)
              clear hu12 hb0 m2 a2 e0' hz3
              obtain ⟨W4, hrun, m4, hg4⟩ := update_same Tryz.underlying149 m3 p v9 HLO.out
              have D4 := D3.grown hg4 (Nat.le_of_lt (m3.lt)) (fun k e => by cases e; exact Nat.le_refl _)
              unfold sV at hrun
              clear hg4 m3 D3
              show wpPure _ _ _ _
              intro ks hks _ _
              obtain rfl : ks = [] := List.length_eq_zero_iff.1 hks
              clear hks
              show wpList _ _ _ _ _ _
              simp only [deco]
              go_wp2_with fail
              go_roundw
              case rel => exact ⟨j + 1, T, by omega, by go_num, m4, by intro a; rw [HZS.out, List.mem_append, ← HT.out a]; exact ⟨.inl, fun h => h.elim id fun h => by rw [List.mem_singleton.1 h]; exact lookS_some HLO.out⟩, D4⟩
              case measure => simp [intOf]; omega
            · have d9 : (v9 != h) = true := by simpa using hvh
              obtain rfl : R = false := by
                rw [HRR.out]
                refine fits_two (p := p) (a := v9) (b := h) ?_ ?_ hvh
                · exact List.mem_of_mem_take ((HT.out _).1 (lookS_some HLO.out))
                · have := List.mem_append_right ((l.zip hs).take j) (List.mem_singleton.2 (rfl : (p, h) = (p, h)))
                  rw [← HZS.out] at this
                  exact List.mem_of_mem_take this
              clear hvh
              go_wp2_with fail
              refine bodyPost_ret (v := .tuple #[.bool false, .int .i64 0]) ?_ rfl ⟨by rw [HE.out], below_then B11'.out D2⟩
              simp [results, Tryz.results35, go_sem]
        · obtain rfl : j = l.length := by omega
          have hTT : ∀ a, a ∈ T ↔ a ∈ l.zip hs := by
            intro a
            rw [HT.out a, List.take_of_length_le (by rw [List.length_zip]; have := HLH.out; omega)]
          have hc := allows_c f S f.ls gf lb W11.heap.size T wr HS.out ((HG.out.later hD).more hD.size) hm (fun a ha => by
            obtain ⟨h1, h2⟩ := List.of_mem_zip ((hTT a).1 ha)
            exact ⟨HSP.out.2 _ h1, heat_iff.1 (List.all_eq_true.1 HHT.out.2 _ h2)⟩)
          rw [fits_set hTT, ← HRR.out] at hc
          unfold siV at hc
          have t1 := (hD.block _ zk1).trans R1.out
          have s0 := Joins.cell_of_block t1 0
          have s1 := Joins.cell_of_block t1 1
          have s2 := Joins.cell_of_block t1 2
          have s3 := Joins.cell_of_block t1 3
          have s4 := Joins.cell_of_block t1 4
          clear hTT
          go_wp2_with fail
          refine hc.mono ?_
          rintro e W9 ⟨rfl, hF⟩
          clear hc s0 s1 s2 s3 s4 t1
          go_wp2_with fail
          refine bodyPost_ret (v := .tuple #[.bool R, .int .i64 0]) ?_ rfl ⟨by rw [HE.out], below_then (below_then B11'.out hD) hF⟩
          simp [results, Tryz.results35, go_sem]
    · have d1 : (ke != 0) = true := by simpa using h0
      obtain rfl : R = false := by rw [HR.out]; unfold fitsR; rw [HE.out, if_neg h0]
      clear h0 HZ HN HROW K11 hpe1 hpe2 hke h5 h1c
      go_wp2_with fail
      refine bodyPost_ret (v := .tuple #[.bool false, .int .i64 ke]) ?_ rfl ⟨by rw [HE.out], B11⟩
      simp [results, Tryz.results35, go_sem]
end Go.Proofs.YtjpoacffnpgjdaaGreat
