/- allows: whether spots can have the heats that a map tells, by the program (written by tools/genallows.py). -/
import Derived.Test.YtjpoacffnpgjdaaZSNext
import Derived.Test.YtjpoacffnpgjdaaJ17
namespace Go.Proofs.Ytjpoacffnpgjdaa
open Go Go.RowKit Go.Shelf

theorem blk_lt {w : World} {i : Nat} {o : Obj} (h : w.heap[i]? = some o) : i < w.heap.size := by
  rcases Nat.lt_or_ge i w.heap.size with h1 | h1
  · exact h1
  · rw [Array.getElem?_eq_none h1] at h; cases h
theorem iterSeen_of {w : World} {i c s : Nat} {m : Option Nat} {seen : Array Nat} (h : w.heap[i]? = some (.mapIter m s seen c)) : w.iterSeen i = seen := by simp [World.iterSeen, h]
set_option maxRecDepth 100000 in
set_option maxHeartbeats 8000000 in
theorem allows_c (f : Fi) (S ls : List Lk) (gf : Nat) (lb : Array Value) (r : Nat) (T : List (Spt × Int)) (w : World) (h : SOk f S ls)
    (hG : Gives Try.prog w.heap.size 0 fireU (.func (.func gf) #[] lb) encLk S w) (hm : SMap w r T) (hT : ∀ p ∈ T, spotB p.1 = true ∧ 0 ≤ p.2 ∧ p.2 ≤ 1500) :
    Calls Try.prog 43 #[siV f (.func (.func gf) #[] lb), .map (some r)] w fun e w' => e = .returned (.bool (fitsB f ls T)) ∧ Below w.heap.size w w' := by
  have hrl := hm.lt
  obtain ⟨es, clock, hb, he, hn, hlt⟩ := hm
  have HE := Lib.hid he
  have HN := Lib.hid hn
  have HLT := Lib.hid hlt
  have HT := Lib.hid hT
  have hbd := fun p (hp : spotB p = true) W (hb : Below w.heap.size w W) => bounds_c f S ls gf lb p W h hp ((hG.later hb).more hb.size)
  have hfar := fun p q (hp : spotB p = true) (hq : spotB q = true) W => far_c f p q W h.slope hp hq
  have HSL := Lib.hid h.slope
  obtain ⟨B, hB0⟩ : ∃ b, b = fitsB f ls T := ⟨_, rfl⟩
  rw [← hB0]
  have HB0 := Lib.hid hB0
  unfold siV sV bndV bndI at hbd
  unfold sV slV at hfar
  have HBD := Lib.hid hbd
  have HFAR := Lib.hid hfar
  clear he hn hlt hT hbd hfar hB0 h hG
  have hfb := Try.fieldBnd0
  have q0 := heap_alloc_new w (.cells #[.int .i64 f.rise, .int .i64 f.fall, .int .i64 f.up, .int .i64 f.down, .func (.func gf) #[] lb] 85)
  have qb := below_alloc w (.cells #[.int .i64 f.rise, .int .i64 f.fall, .int .i64 f.up, .int .i64 f.down, .func (.func gf) #[] lb] 85)
  have b0 := (qb.block r hrl).trans hb
  have hrg := run_range_map (P := Try.prog) (w.alloc (.cells #[.int .i64 f.rise, .int .i64 f.fall, .int .i64 f.up, .int .i64 f.down, .func (.func gf) #[] lb] 85)) 93 _ _ r es clock Try.underlying93 b0
  have i1 : ((w.alloc (.cells #[.int .i64 f.rise, .int .i64 f.fall, .int .i64 f.up, .int .i64 f.down, .func (.func gf) #[] lb] 85)).alloc (.mapIter (some r) clock #[] clock)).heap[w.heap.size + 1]? = some (.mapIter (some r) clock #[] clock) := by simpa using heap_alloc_new (w.alloc (.cells #[.int .i64 f.rise, .int .i64 f.fall, .int .i64 f.up, .int .i64 f.down, .func (.func gf) #[] lb] 85)) (.mapIter (some r) clock #[] clock)
  have qb2 := below_alloc (w.alloc (.cells #[.int .i64 f.rise, .int .i64 f.fall, .int .i64 f.up, .int .i64 f.down, .func (.func gf) #[] lb] 85)) (.mapIter (some r) clock #[] clock)
  have q1 := (qb2.block _ (size_of_block q0)).trans q0
  have B1 := below_then qb qb2
  clear q0 qb qb2 b0
  unfold siV
  go_enter Try.func43, Try.ntmps43
  go_wp2_with fail
  clear hrg
  generalize (w.alloc (.cells #[.int .i64 f.rise, .int .i64 f.fall, .int .i64 f.up, .int .i64 f.down, .func (.func gf) #[] lb] 85)).alloc (.mapIter (some r) clock #[] clock) = W2 at i1 q1 B1 ⊢
  go_loopw [] (fun wr => ∃ seen c0, clock ≤ c0 ∧ wr.heap[w.heap.size + 1]? = some (.mapIter (some r) clock seen c0) ∧ Hid (SeenG es seen (fun p => (endLo f ls p.1 ≤ p.2 ∧ p.2 ≤ endHi f ls p.1) ∧ ∀ q ∈ T, q.2 ≤ p.2 + farI f p.1 q.1)) ∧ wr.heap[w.heap.size]? = some (.cells #[.int .i64 f.rise, .int .i64 f.fall, .int .i64 f.up, .int .i64 f.down, .func (.func gf) #[] lb] 85) ∧ Below w.heap.size w wr) (fun wr => (leftOf es (wr.iterSeen (w.heap.size + 1))).size)
  case atStart => exact ⟨#[], clock, Nat.le_refl _, i1, SeenG.start, q1, B1⟩
  case round =>
    clear i1 q1 B1
    obtain ⟨seen, c0, hsc, i1, hS, q1, B1⟩ := hrel
    have b1 := (B1.block r hrl).trans hb
    have z1 := Lib.hid (iterSeen_of i1)
    rcases next_s i1 b1 HE.out HLT.out hsc with ⟨hall, hnx⟩ | ⟨e, ⟨at_, hh⟩, hee, hp, hk, hv, hlf, W', hnx, i2, ht⟩
    · obtain rfl : B = true := by rw [HB0.out]; exact fits_iff.2 (hS.out.all hall HE.out)
      clear hall
      go_wp2_with fail
      go_ret
      exact ⟨rfl, B1⟩
    · have hps := HT.out _ hp
      simp only at hps hk hv hnx
      have b2 := (ht.block r (by omega)).trans b1
      have q2 := (ht.block w.heap.size (by omega)).trans q1
      have B2 := B1.trans (ht.below (by omega))
      have hen := entry_s (p := (at_, hh)) i2 b2 hee HN.out hk hv
      have HG1 := Lib.hid (fun hg => SeenG.push (p := (at_, hh)) hS.out HN.out hee hk hv hg)
      have HP := Lib.hid hp
      have HPS := Lib.hid hps
      have HLF := Lib.hid hlf
      simp only at hen
      unfold sV at hnx hen
      have zri := blk_lt i2
      have a3 := heap_alloc_new W' (.cells #[.int .i64 at_.foot, .int .i64 at_.hour] 42)
      have HB3 := below_alloc W' (.cells #[.int .i64 at_.foot, .int .i64 at_.hour] 42)
      have c0' := Joins.cell_of_block ((HB3.block _ (size_of_block q2)).trans q2) 0
      have c1' := Joins.cell_of_block ((HB3.block _ (size_of_block q2)).trans q2) 1
      have c2' := Joins.cell_of_block ((HB3.block _ (size_of_block q2)).trans q2) 2
      have c3' := Joins.cell_of_block ((HB3.block _ (size_of_block q2)).trans q2) 3
      have c4' := Joins.cell_of_block ((HB3.block _ (size_of_block q2)).trans q2) 4
      have d0' := Joins.cell_of_block a3 0
      have d1' := Joins.cell_of_block a3 1
      clear hS hee hp hk hv hlf ht hps i1 q1 b1
      go_wp2_with fail
      generalize W'.alloc (.cells #[.int .i64 at_.foot, .int .i64 at_.hour] 42) = W3 at a3 HB3 c0' c1' c2' c3' c4' d0' d1' ⊢
      clear hnx hen
      have i3 := (HB3.block _ (blk_lt i2)).trans i2
      have q3 := (HB3.block _ (size_of_block q2)).trans q2
      have B3 := below_then B2 HB3
      clear HB3 i2 q2 B2 b2
      refine (HBD.out at_ HPS.out.1 W3 B3).mono ?_
      rintro e4 W4 ⟨rfl, hF⟩
      have i4 := (hF.block _ (blk_lt i3)).trans i3
      have q4 := (hF.block _ (size_of_block q3)).trans q3
      have a4 := (hF.block _ (size_of_block a3)).trans a3
      have B4 := below_then B3 hF
      clear hF c0' c1' c2' c3' c4' d0' d1' i3 q3 a3 B3
      have HB5 := below_alloc W4 (.cells #[.int .i64 (endLo f ls at_), .int .i64 (endHi f ls at_)] 36)
      have e5 := heap_alloc_new W4 (.cells #[.int .i64 (endLo f ls at_), .int .i64 (endHi f ls at_)] 36)
      have f0 := Joins.cell_of_block e5 0
      have f1 := Joins.cell_of_block e5 1
      have zat := size_of_block a4
      by_cases hgood : endLo f ls at_ ≤ hh ∧ hh ≤ endHi f ls at_
      · have d1 : decide (hh < endLo f ls at_) = false := decide_eq_false (by omega)
        have d2 : decide (endHi f ls at_ < hh) = false := decide_eq_false (by omega)
        have HGD := Lib.hid hgood
        clear hgood
        have b5 := ((below_then B4 HB5).block r hrl).trans hb
        have hrg := run_range_map (P := Try.prog) (W4.alloc (.cells #[.int .i64 (endLo f ls at_), .int .i64 (endHi f ls at_)] 36)) 93 _ _ r es clock Try.underlying93 b5
        have i6 : ((W4.alloc (.cells #[.int .i64 (endLo f ls at_), .int .i64 (endHi f ls at_)] 36)).alloc (.mapIter (some r) clock #[] clock)).heap[W4.heap.size + 1]? = some (.mapIter (some r) clock #[] clock) := by simpa using heap_alloc_new (W4.alloc (.cells #[.int .i64 (endLo f ls at_), .int .i64 (endHi f ls at_)] 36)) (.mapIter (some r) clock #[] clock)
        have hb6 := below_then HB5 (below_alloc (W4.alloc (.cells #[.int .i64 (endLo f ls at_), .int .i64 (endHi f ls at_)] 36)) (.mapIter (some r) clock #[] clock))
        have q6 := (hb6.block _ (size_of_block q4)).trans q4
        have a6 := (hb6.block _ (size_of_block a4)).trans a4
        have o6 := (hb6.block _ (blk_lt i4)).trans i4
        have B6 := below_then B4 hb6
        clear HB5 e5 b5 hb6 q4 a4 i4 B4
        go_wp2_with fail
        clear hrg f0 f1 d1 d2
        generalize (W4.alloc (.cells #[.int .i64 (endLo f ls at_), .int .i64 (endHi f ls at_)] 36)).alloc (.mapIter (some r) clock #[] clock) = W6 at i6 q6 a6 o6 B6 ⊢
        obtain ⟨wo, rfl⟩ : ∃ wo : World, wo = wr := ⟨_, rfl⟩
        go_loopw [] (fun wr => ∃ seen2 c2, clock ≤ c2 ∧ wr.heap[W4.heap.size + 1]? = some (.mapIter (some r) clock seen2 c2) ∧ Hid (SeenG es seen2 (fun q => q.2 ≤ hh + farI f at_ q.1)) ∧ wr.heap[w.heap.size + 1]? = some (.mapIter (some r) clock (seen.push e.born) clock) ∧ wr.heap[w.heap.size]? = some (.cells #[.int .i64 f.rise, .int .i64 f.fall, .int .i64 f.up, .int .i64 f.down, .func (.func gf) #[] lb] 85) ∧ wr.heap[W'.heap.size]? = some (.cells #[.int .i64 at_.foot, .int .i64 at_.hour] 42) ∧ Below w.heap.size w wr) (fun wr => (leftOf es (wr.iterSeen (W4.heap.size + 1))).size)
        case atStart => exact ⟨#[], clock, Nat.le_refl _, i6, SeenG.start, o6, q6, a6, B6⟩
        case round =>
          clear i6 q6 a6 o6 B6
          obtain ⟨seen2, c2, hsc2, i6, hS2, o6, q6, a6, B6⟩ := hrel
          have b6 := (B6.block r hrl).trans hb
          have z2 := Lib.hid (iterSeen_of i6)
          have z3 := Lib.hid (iterSeen_of o6)
          rcases next_s i6 b6 HE.out HLT.out hsc2 with ⟨hall, hnx⟩ | ⟨e2, ⟨oth, h2⟩, hee2, hp2, hk2, hv2, hlf2, W7, hnx, i7, ht⟩
          · have HA := Lib.hid (hS2.out.all hall HE.out)
            clear hall
            go_wp2_with fail
            go_roundw
            case rel => exact ⟨seen.push e.born, clock, Nat.le_refl _, o6, HG1.out ⟨HGD.out, HA.out⟩, q6, B6⟩
            case measure => rw [z3.out, z1.out]; exact HLF.out
          · have hqs := HT.out _ hp2
            simp only at hqs hk2 hv2 hnx
            have b7 := (ht.block r (by omega)).trans b6
            have q7 := (ht.block w.heap.size (by omega)).trans q6
            have o7 := (ht.block (w.heap.size + 1) (by omega)).trans o6
            have a7 := (ht.block W'.heap.size (by omega)).trans a6
            have B7 := B6.trans (ht.below (by omega))
            have hen := entry_s (p := (oth, h2)) i7 b7 hee2 HN.out hk2 hv2
            have HG2 := Lib.hid (fun hg => SeenG.push (p := (oth, h2)) hS2.out HN.out hee2 hk2 hv2 hg)
            have HP2 := Lib.hid hp2
            have HQS := Lib.hid hqs
            have HLF2 := Lib.hid hlf2
            simp only at hen
            unfold sV at hnx hen
            have n8 := heap_alloc_new W7 (.cells #[.int .i64 oth.foot, .int .i64 oth.hour] 42)
            have HB8 := below_alloc W7 (.cells #[.int .i64 oth.foot, .int .i64 oth.hour] 42)
            have c0' := Joins.cell_of_block ((HB8.block _ (size_of_block q7)).trans q7) 0
            have c1' := Joins.cell_of_block ((HB8.block _ (size_of_block q7)).trans q7) 1
            have c2' := Joins.cell_of_block ((HB8.block _ (size_of_block q7)).trans q7) 2
            have c3' := Joins.cell_of_block ((HB8.block _ (size_of_block q7)).trans q7) 3
            have d0' := Joins.cell_of_block ((HB8.block _ (size_of_block a7)).trans a7) 0
            have d1' := Joins.cell_of_block ((HB8.block _ (size_of_block a7)).trans a7) 1
            have g0' := Joins.cell_of_block n8 0
            have g1' := Joins.cell_of_block n8 1
            clear hS2 hee2 hp2 hk2 hv2 hlf2 ht hqs i6 q6 o6 a6 b6 b7 B6
            go_wp2_with fail
            generalize W7.alloc (.cells #[.int .i64 oth.foot, .int .i64 oth.hour] 42) = W8 at n8 HB8 c0' c1' c2' c3' d0' d1' g0' g1' ⊢
            clear hnx hen
            have i8 := (HB8.block _ (blk_lt i7)).trans i7
            have q8 := (HB8.block _ (size_of_block q7)).trans q7
            have o8 := (HB8.block _ (blk_lt o7)).trans o7
            have a8 := (HB8.block _ (size_of_block a7)).trans a7
            have B8 := below_then B7 HB8
            clear HB8 i7 q7 o7 a7 B7 n8
            have fb := far_bounds HSL.out HPS.out.1 HQS.out.1
            refine (HFAR.out at_ oth HPS.out.1 HQS.out.1 W8).mono ?_
            rintro e9 W9 ⟨rfl, hF⟩
            have i9 := (hF.block _ (blk_lt i8)).trans i8
            have q9 := (hF.block _ (size_of_block q8)).trans q8
            have o9 := (hF.block _ (blk_lt o8)).trans o8
            have a9 := (hF.block _ (size_of_block a8)).trans a8
            have B9 := below_then B8 hF
            clear hF c0' c1' c2' c3' d0' d1' g0' g1' i8 q8 o8 a8 B8
            have hr1 := HPS.out.2
            have hw : IntKind.i64.wrap (hh + farI f at_ oth) = hh + farI f at_ oth := by rw [IntKind.wrap_i64]; omega
            have z9 := Lib.hid (iterSeen_of i9)
            by_cases hg2 : h2 ≤ hh + farI f at_ oth
            · have d3 : decide (hh + farI f at_ oth < h2) = false := decide_eq_false (by omega)
              have HG3 := Lib.hid (HG2.out hg2)
              clear hg2 fb hr1
              go_wp2_with fail
              go_roundw
              case rel => exact ⟨seen2.push e2.born, clock, Nat.le_refl _, i9, HG3.out, o9, q9, a9, B9⟩
              case measure => rw [z9.out, z2.out]; exact HLF2.out
            · have d3 : decide (hh + farI f at_ oth < h2) = true := decide_eq_true (by omega)
              obtain rfl : B = false := by
                rw [HB0.out, Bool.eq_false_iff]; intro H
                exact hg2 (((fits_iff.1 H) (at_, hh) HP.out).2 (oth, h2) HP2.out)
              clear hg2 fb hr1
              go_wp2_with fail
              go_ret
              exact ⟨rfl, B9⟩
      · obtain rfl : B = false := by
          rw [HB0.out, Bool.eq_false_iff]; intro H
          exact hgood ((fits_iff.1 H) (at_, hh) HP.out).1
        by_cases hl1 : hh < endLo f ls at_
        · have d1 : decide (hh < endLo f ls at_) = true := decide_eq_true hl1
          clear hgood hl1
          go_wp2_with fail
          go_ret
          exact ⟨rfl, below_then B4 HB5⟩
        · have d1 : decide (hh < endLo f ls at_) = false := decide_eq_false hl1
          have d2 : decide (endHi f ls at_ < hh) = true := decide_eq_true (by omega)
          clear hgood hl1
          go_wp2_with fail
          go_ret
          exact ⟨rfl, below_then B4 HB5⟩
end Go.Proofs.Ytjpoacffnpgjdaa
