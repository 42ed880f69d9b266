/- The reference for fires: Ends, CheckEnds (written by tools/genendsr.py). -/
import Derived.Test.YtjpoacffnpgjdaaGreatZFRefW
import Derived.Test.YtjpoacffnpgjdaaGreatJ20
namespace Go.Proofs.YtjpoacffnpgjdaaGreat
open Go Go.RowKit Go.Shelf
attribute [local go_sem] Oper.semAt_some Rel RelAt RelUpon

theorem spots_one (p : Spt) : spotsI [p] = spotE p := by unfold spotsI spotE; rw [if_neg (by simp)]; simp
theorem list_one (f : Fi) (p : Spt) : listE f [p] = endsE f p := by unfold listE endsE; rw [spots_one]
theorem ends_ok {f : Fi} {p : Spt} (h : endsE f p = 0) : FireOk f ∧ spotB p = true := ⟨(ends_zero h).1, (ends_zero h).2.1⟩
set_option maxRecDepth 100000 in
set_option maxHeartbeats 4000000 in
theorem EndsR_c (f : Fi) (vl : Value) (p : Spt) (w : World) (hl : Lks w w.heap.size vl f.ls) :
    Calls Tryz.prog 25 #[fiV f vl, sV p] w fun e w' => e = .returned (.agg #[.int .i64 (endsR f p).lo, .int .i64 (endsR f p).hi, .int .i64 (endsR f p).low, .int .i64 (endsR f p).high, .int .i64 (endsE f p)]) ∧ Below w.heap.size w w' := by
  obtain ⟨A, cap, rfl⟩ := hl.form
  have HK := Lib.hid hl
  clear hl
  have x0 := fun W v h h1 => asked_r f (.slice A f.ls.length cap) v [p] W h h1
  rw [list_one] at x0
  by_cases hE : endsE f p = 0
  · obtain ⟨hok, hp⟩ := ends_ok hE
    have x1 := fun W h => bounds_r f (.slice A f.ls.length cap) p W h hok.slope hok.look hok.ids hp
    have e1 : endsR f p = bndI f f.ls p := by unfold endsR; rw [if_pos hE]
    rw [e1, hE]
    rw [hE] at x0
    clear e1 hE hok hp
    generalize bndI f f.ls p = R at x1 ⊢
    unfold bndV at x1
    have X1 := Lib.hid x1
    clear x1
    have X0 := Lib.hid (fun W v => x0 W v)
    clear x0
    unfold fiV at X0
    unfold fiV sV at X1
    unfold fiV sV
    go_enter Tryz.func25, Tryz.ntmps25
    obtain ⟨bf, bp, br, bs_, -, HB⟩ := four_new w (.cells #[.int .i64 f.rise, .int .i64 f.fall, .int .i64 f.up, .int .i64 f.down, .slice A f.ls.length cap] 24) (.cells #[.int .i64 p.foot, .int .i64 p.hour] 26) (.cells #[.int .i64 0, .int .i64 0, .int .i64 0, .int .i64 0, .int .i64 0] 60) (.cells #[.int .i64 p.foot, .int .i64 p.hour] 26)
    go_wp2_with fail
    generalize ((((w.alloc (.cells #[.int .i64 f.rise, .int .i64 f.fall, .int .i64 f.up, .int .i64 f.down, .slice A f.ls.length cap] 24)).alloc (.cells #[.int .i64 p.foot, .int .i64 p.hour] 26)).alloc (.cells #[.int .i64 0, .int .i64 0, .int .i64 0, .int .i64 0, .int .i64 0] 60)).alloc (.cells #[.int .i64 p.foot, .int .i64 p.hour] 26)) = w1 at bf bp br bs_ HB  ⊢
    have hB := HB
    clear HB
    have hk := HK.out.later hB
    have hs := spts1 bs_
    refine (X0.out w1 _ hk hs).mono ?_
    rintro e w2 ⟨rfl, hF⟩
    replace bf := (hF.block _ (size_of_block bf)).trans bf
    replace bp := (hF.block _ (size_of_block bp)).trans bp
    replace br := (hF.block _ (size_of_block br)).trans br
    replace bs_ := (hF.block _ (size_of_block bs_)).trans bs_
    replace hk := hk.later hF
    replace hs := hs.later hF
    replace hB := below_then hB hF
    clear hF
    have cbf0 := Joins.cell_of_block bf 0
    have cbf1 := Joins.cell_of_block bf 1
    have cbf2 := Joins.cell_of_block bf 2
    have cbf3 := Joins.cell_of_block bf 3
    have cbf4 := Joins.cell_of_block bf 4
    have cbp0 := Joins.cell_of_block bp 0
    have cbp1 := Joins.cell_of_block bp 1
    go_wp2_with fail
    refine (X1.out w2 hk).mono ?_
    rintro e w3 ⟨rfl, hF⟩
    clear cbf0 cbf1 cbf2 cbf3 cbf4 cbp0 cbp1
    replace bf := (hF.block _ (size_of_block bf)).trans bf
    replace bp := (hF.block _ (size_of_block bp)).trans bp
    replace br := (hF.block _ (size_of_block br)).trans br
    replace bs_ := (hF.block _ (size_of_block bs_)).trans bs_
    replace hk := hk.later hF
    replace hs := hs.later hF
    replace hB := below_then hB hF
    clear hF
    have HP := Lib.hid (fun j : Nat => cell_setRow_same w3 (w.heap.size + 1 + 1) j _ #[.int .i64 R.lo, .int .i64 R.hi, .int .i64 R.low, .int .i64 R.high, .int .i64 0] _ _ br)
    have BF := below_setRow hB (show w.heap.size ≤ w.heap.size + 1 + 1 by omega) #[.int .i64 R.lo, .int .i64 R.hi, .int .i64 R.low, .int .i64 R.high, .int .i64 0]
    go_wp2_with (refine wpList_store_rowTo rfl 60 _ _ rfl rfl (w.heap.size + 1 + 1) #[.int .i64 R.lo, .int .i64 R.hi, .int .i64 R.low, .int .i64 R.high, .int .i64 0] rfl rfl 60 _ br (by kernel_rfl) rfl (by kernel_rfl) ?_)
    refine bodyPost_ret (v := .agg #[.int .i64 R.lo, .int .i64 R.hi, .int .i64 R.low, .int .i64 R.high, .int .i64 0]) ?_ rfl ⟨rfl, BF⟩
    simp [results, Tryz.results25, go_sem, HP.out]
  · have e1 : endsR f p = ⟨0, 0, 0, 0⟩ := by unfold endsR; rw [if_neg hE]
    have d1 : (endsE f p != 0) = true := by simpa using hE
    rw [e1]
    clear e1 hE
    generalize endsE f p = E at x0 d1 ⊢
    have X0 := Lib.hid (fun W v => x0 W v)
    clear x0
    unfold fiV at X0
    unfold fiV sV
    go_enter Tryz.func25, Tryz.ntmps25
    obtain ⟨bf, bp, br, bs_, -, HB⟩ := four_new w (.cells #[.int .i64 f.rise, .int .i64 f.fall, .int .i64 f.up, .int .i64 f.down, .slice A f.ls.length cap] 24) (.cells #[.int .i64 p.foot, .int .i64 p.hour] 26) (.cells #[.int .i64 0, .int .i64 0, .int .i64 0, .int .i64 0, .int .i64 0] 60) (.cells #[.int .i64 p.foot, .int .i64 p.hour] 26)
    go_wp2_with fail
    generalize ((((w.alloc (.cells #[.int .i64 f.rise, .int .i64 f.fall, .int .i64 f.up, .int .i64 f.down, .slice A f.ls.length cap] 24)).alloc (.cells #[.int .i64 p.foot, .int .i64 p.hour] 26)).alloc (.cells #[.int .i64 0, .int .i64 0, .int .i64 0, .int .i64 0, .int .i64 0] 60)).alloc (.cells #[.int .i64 p.foot, .int .i64 p.hour] 26)) = w1 at bf bp br bs_ HB  ⊢
    have hB := HB
    clear HB
    have hk := HK.out.later hB
    have hs := spts1 bs_
    refine (X0.out w1 _ hk hs).mono ?_
    rintro e w2 ⟨rfl, hF⟩
    replace bf := (hF.block _ (size_of_block bf)).trans bf
    replace bp := (hF.block _ (size_of_block bp)).trans bp
    replace br := (hF.block _ (size_of_block br)).trans br
    replace bs_ := (hF.block _ (size_of_block bs_)).trans bs_
    replace hk := hk.later hF
    replace hs := hs.later hF
    replace hB := below_then hB hF
    clear hF
    have HP := Lib.hid (fun j : Nat => cell_setRow_same w2 (w.heap.size + 1 + 1) j _ #[.int .i64 0, .int .i64 0, .int .i64 0, .int .i64 0, .int .i64 E] _ _ br)
    have BF := below_setRow hB (show w.heap.size ≤ w.heap.size + 1 + 1 by omega) #[.int .i64 0, .int .i64 0, .int .i64 0, .int .i64 0, .int .i64 E]
    go_wp2_with (refine wpList_store_rowTo rfl 60 _ _ rfl rfl (w.heap.size + 1 + 1) #[.int .i64 0, .int .i64 0, .int .i64 0, .int .i64 0, .int .i64 E] rfl rfl 60 _ br (by kernel_rfl) rfl (by kernel_rfl) ?_)
    refine bodyPost_ret (v := .agg #[.int .i64 0, .int .i64 0, .int .i64 0, .int .i64 0, .int .i64 E]) ?_ rfl ⟨rfl, BF⟩
    simp [results, Tryz.results25, go_sem, HP.out]
set_option maxRecDepth 100000 in
set_option maxHeartbeats 4000000 in
theorem CheckEndsR_c (f : Fi) (vl : Value) (p : Spt) (b : Bnd) (w : World) (hl : Lks w w.heap.size vl f.ls) :
    Calls Tryz.prog 29 #[fiV f vl, sV p, bndV b] w fun e w' => e = .returned (.int .i64 (chkEndsI f p b)) ∧ Below w.heap.size w w' := by
  obtain ⟨A, cap, rfl⟩ := hl.form
  have HK := Lib.hid hl
  clear hl
  have x0 := fun W v h h1 => asked_r f (.slice A f.ls.length cap) v [p] W h h1
  rw [list_one] at x0
  by_cases hE : endsE f p = 0
  · obtain ⟨hok, hp⟩ := ends_ok hE
    have x1 := fun W h => ends_r f (.slice A f.ls.length cap) p W h hok.slope hok.look hp
    have x2 := fun W e h => shows_rlo f (.slice A f.ls.length cap) p b.low e W h hok.slope hok.look hp
    have x3 := fun W e h => shows_rhi f (.slice A f.ls.length cap) p b.high e W h hok.slope hok.look hp
    obtain ⟨R, hR⟩ : ∃ r, r = chkEndsI f p b := ⟨_, rfl⟩
    rw [← hR]
    have hv : R = if ((decide (b.lo = endLo f f.ls p) && decide (b.hi = endHi f f.ls p)) && (showsB f f.ls p b.low (endLo f f.ls p) false || (b.low == 0 && endLo f f.ls p == 0)) && (showsB f f.ls p b.high (endHi f f.ls p) true || (b.high == 0 && endHi f f.ls p == 1500))) = true then 0 else 8 := by
      rw [hR]; unfold chkEndsI proofB; rw [if_neg (by simp [hE])]
    rw [hE] at x0
    clear hR hE hok hp
    have x4 := fun W => x2 W (endLo f f.ls p)
    have x5 := fun W => x3 W (endHi f f.ls p)
    generalize endLo f f.ls p = lo at x1 x4 hv
    generalize endHi f f.ls p = hi at x1 x5 hv
    generalize showsB f f.ls p b.low lo false = s1 at x4 hv
    generalize showsB f f.ls p b.high hi true = s2 at x5 hv
    have hne := fun W => Tryz.neSp b.lo b.hi lo hi W
    have HV : Hid (R = if (((b.lo == lo && b.hi == hi) && (s1 || (b.low == 0 && lo == 0))) && (s2 || (b.high == 0 && hi == 1500))) = true then 0 else 8) := by
      show R = _; rw [hv]; rfl
    clear hv x2 x3
    have X0 := Lib.hid (fun W v => x0 W v)
    have X1 := Lib.hid x1
    have X4 := Lib.hid x4
    have X5 := Lib.hid x5
    clear x0 x1 x4 x5
    unfold fiV at X0
    unfold fiV sV at X1 X4 X5
    unfold fiV sV bndV
    go_enter Tryz.func29, Tryz.ntmps29
    obtain ⟨bf, bp, bb, bs_, -, HB⟩ := four_new w (.cells #[.int .i64 f.rise, .int .i64 f.fall, .int .i64 f.up, .int .i64 f.down, .slice A f.ls.length cap] 24) (.cells #[.int .i64 p.foot, .int .i64 p.hour] 26) (.cells #[.int .i64 b.lo, .int .i64 b.hi, .int .i64 b.low, .int .i64 b.high] 56) (.cells #[.int .i64 p.foot, .int .i64 p.hour] 26)
    go_wp2_with fail
    generalize ((((w.alloc (.cells #[.int .i64 f.rise, .int .i64 f.fall, .int .i64 f.up, .int .i64 f.down, .slice A f.ls.length cap] 24)).alloc (.cells #[.int .i64 p.foot, .int .i64 p.hour] 26)).alloc (.cells #[.int .i64 b.lo, .int .i64 b.hi, .int .i64 b.low, .int .i64 b.high] 56)).alloc (.cells #[.int .i64 p.foot, .int .i64 p.hour] 26)) = w1 at bf bp bb bs_ HB  ⊢
    have hB := HB
    clear HB
    have hk := HK.out.later hB
    have hs := spts1 bs_
    refine (X0.out w1 _ hk hs).mono ?_
    rintro e w2 ⟨rfl, hF⟩
    replace bf := (hF.block _ (size_of_block bf)).trans bf
    replace bp := (hF.block _ (size_of_block bp)).trans bp
    replace bb := (hF.block _ (size_of_block bb)).trans bb
    replace bs_ := (hF.block _ (size_of_block bs_)).trans bs_
    replace hk := hk.later hF
    replace hs := hs.later hF
    replace hB := below_then hB hF
    clear hF
    have cbf0 := Joins.cell_of_block bf 0
    have cbf1 := Joins.cell_of_block bf 1
    have cbf2 := Joins.cell_of_block bf 2
    have cbf3 := Joins.cell_of_block bf 3
    have cbf4 := Joins.cell_of_block bf 4
    have cbp0 := Joins.cell_of_block bp 0
    have cbp1 := Joins.cell_of_block bp 1
    go_wp2_with fail
    refine (X1.out w2 hk).mono ?_
    rintro e w3 ⟨rfl, hF⟩
    clear cbf0 cbf1 cbf2 cbf3 cbf4 cbp0 cbp1
    replace bf := (hF.block _ (size_of_block bf)).trans bf
    replace bp := (hF.block _ (size_of_block bp)).trans bp
    replace bb := (hF.block _ (size_of_block bb)).trans bb
    replace bs_ := (hF.block _ (size_of_block bs_)).trans bs_
    replace hk := hk.later hF
    replace hs := hs.later hF
    replace hB := below_then hB hF
    clear hF
    have cz0 := Joins.cell_of_block (heap_alloc_new w3 (.cells #[.int .i64 lo, .int .i64 hi] 54)) 0
    have cz1 := Joins.cell_of_block (heap_alloc_new w3 (.cells #[.int .i64 lo, .int .i64 hi] 54)) 1
    have bn := heap_alloc_new w3 (.cells #[.int .i64 lo, .int .i64 hi] 54)
    have HB := below_alloc w3 (.cells #[.int .i64 lo, .int .i64 hi] 54)
    have cbf0 := Joins.cell_of_block ((HB.block _ (size_of_block bf)).trans bf) 0
    have cbf1 := Joins.cell_of_block ((HB.block _ (size_of_block bf)).trans bf) 1
    have cbf2 := Joins.cell_of_block ((HB.block _ (size_of_block bf)).trans bf) 2
    have cbf3 := Joins.cell_of_block ((HB.block _ (size_of_block bf)).trans bf) 3
    have cbf4 := Joins.cell_of_block ((HB.block _ (size_of_block bf)).trans bf) 4
    have cbp0 := Joins.cell_of_block ((HB.block _ (size_of_block bp)).trans bp) 0
    have cbp1 := Joins.cell_of_block ((HB.block _ (size_of_block bp)).trans bp) 1
    have cbb0 := Joins.cell_of_block ((HB.block _ (size_of_block bb)).trans bb) 0
    have cbb1 := Joins.cell_of_block ((HB.block _ (size_of_block bb)).trans bb) 1
    have cbb2 := Joins.cell_of_block ((HB.block _ (size_of_block bb)).trans bb) 2
    have cbb3 := Joins.cell_of_block ((HB.block _ (size_of_block bb)).trans bb) 3
    go_wp2_with fail
    generalize (w3.alloc (.cells #[.int .i64 lo, .int .i64 hi] 54)) = w4 at bn HB cbf0 cbf1 cbf2 cbf3 cbf4 cbp0 cbp1 cbb0 cbb1 cbb2 cbb3 ⊢
    replace bf := (HB.block _ (size_of_block bf)).trans bf
    replace bp := (HB.block _ (size_of_block bp)).trans bp
    replace bb := (HB.block _ (size_of_block bb)).trans bb
    replace bs_ := (HB.block _ (size_of_block bs_)).trans bs_
    replace hk := hk.later HB
    replace hs := hs.later HB
    replace hB := below_then hB HB
    clear HB
    clear cz0 cz1
    refine (X4.out w4 hk).mono ?_
    rintro e w5 ⟨rfl, hF⟩
    clear cbf0 cbf1 cbf2 cbf3 cbf4 cbp0 cbp1 cbb0 cbb1 cbb2 cbb3
    replace bf := (hF.block _ (size_of_block bf)).trans bf
    replace bp := (hF.block _ (size_of_block bp)).trans bp
    replace bb := (hF.block _ (size_of_block bb)).trans bb
    replace bs_ := (hF.block _ (size_of_block bs_)).trans bs_
    replace bn := (hF.block _ (size_of_block bn)).trans bn
    replace hk := hk.later hF
    replace hs := hs.later hF
    replace hB := below_then hB hF
    clear hF
    have cbf0 := Joins.cell_of_block bf 0
    have cbf1 := Joins.cell_of_block bf 1
    have cbf2 := Joins.cell_of_block bf 2
    have cbf3 := Joins.cell_of_block bf 3
    have cbf4 := Joins.cell_of_block bf 4
    have cbp0 := Joins.cell_of_block bp 0
    have cbp1 := Joins.cell_of_block bp 1
    have cbb0 := Joins.cell_of_block bb 0
    have cbb1 := Joins.cell_of_block bb 1
    have cbb2 := Joins.cell_of_block bb 2
    have cbb3 := Joins.cell_of_block bb 3
    have cbn0 := Joins.cell_of_block bn 0
    have cbn1 := Joins.cell_of_block bn 1
    go_wp2_with fail
    refine (X5.out w5 hk).mono ?_
    rintro e w6 ⟨rfl, hF⟩
    clear cbf0 cbf1 cbf2 cbf3 cbf4 cbp0 cbp1 cbb0 cbb1 cbb2 cbb3 cbn0 cbn1
    replace bf := (hF.block _ (size_of_block bf)).trans bf
    replace bp := (hF.block _ (size_of_block bp)).trans bp
    replace bb := (hF.block _ (size_of_block bb)).trans bb
    replace bs_ := (hF.block _ (size_of_block bs_)).trans bs_
    replace bn := (hF.block _ (size_of_block bn)).trans bn
    replace hk := hk.later hF
    replace hs := hs.later hF
    replace hB := below_then hB hF
    clear hF
    have b0 := Joins.cell_of_block bb 0
    have b1 := Joins.cell_of_block bb 1
    have b2 := Joins.cell_of_block bb 2
    have b3 := Joins.cell_of_block bb 3
    have n0 := Joins.cell_of_block bn 0
    have n1 := Joins.cell_of_block bn 1
    cases he : (b.lo == lo && b.hi == hi) with
    | false =>
      rw [he] at hne
      simp only [Bool.not_false] at hne
      obtain rfl : R = 8 := by rw [HV.out, he]; rfl
      go_wp2_with fail
      go_ret
      exact ⟨rfl, hB⟩
    | true =>
      rw [he] at hne
      simp only [Bool.not_true] at hne
      cases s1 with
      | true =>
        cases s2 with
        | true =>
          obtain rfl : R = 0 := by rw [HV.out, he]; rfl
          go_wp2_with fail
          go_ret
          exact ⟨rfl, hB⟩
        | false =>
          cases hs2 : (b.high == 0) with
          | false =>
            have zs2 : (b.high != 0) = true := by rw [bne, hs2]; rfl
            obtain rfl : R = 8 := by rw [HV.out, he, hs2]; rfl
            go_wp2_with fail
            go_ret
            exact ⟨rfl, hB⟩
          | true =>
            have zs2 : (b.high != 0) = false := by rw [bne, hs2]; rfl
            cases ks2 : (hi == 1500) with
            | false =>
              have ys2 : (hi != 1500) = true := by rw [bne, ks2]; rfl
              obtain rfl : R = 8 := by rw [HV.out, he, hs2, ks2]; rfl
              go_wp2_with fail
              go_ret
              exact ⟨rfl, hB⟩
            | true =>
              have ys2 : (hi != 1500) = false := by rw [bne, ks2]; rfl
              obtain rfl : R = 0 := by rw [HV.out, he, hs2, ks2]; rfl
              go_wp2_with fail
              go_ret
              exact ⟨rfl, hB⟩
      | false =>
        cases hs1 : (b.low == 0) with
        | false =>
          have zs1 : (b.low != 0) = true := by rw [bne, hs1]; rfl
          obtain rfl : R = 8 := by rw [HV.out, he, hs1]; rfl
          go_wp2_with fail
          go_ret
          exact ⟨rfl, hB⟩
        | true =>
          have zs1 : (b.low != 0) = false := by rw [bne, hs1]; rfl
          cases ks1 : (lo == 0) with
          | false =>
            have ys1 : (lo != 0) = true := by rw [bne, ks1]; rfl
            obtain rfl : R = 8 := by rw [HV.out, he, hs1, ks1]; rfl
            go_wp2_with fail
            go_ret
            exact ⟨rfl, hB⟩
          | true =>
            have ys1 : (lo != 0) = false := by rw [bne, ks1]; rfl
            cases s2 with
            | true =>
              obtain rfl : R = 0 := by rw [HV.out, he, hs1, ks1]; rfl
              go_wp2_with fail
              go_ret
              exact ⟨rfl, hB⟩
            | false =>
              cases hs2 : (b.high == 0) with
              | false =>
                have zs2 : (b.high != 0) = true := by rw [bne, hs2]; rfl
                obtain rfl : R = 8 := by rw [HV.out, he, hs1, ks1, hs2]; rfl
                go_wp2_with fail
                go_ret
                exact ⟨rfl, hB⟩
              | true =>
                have zs2 : (b.high != 0) = false := by rw [bne, hs2]; rfl
                cases ks2 : (hi == 1500) with
                | false =>
                  have ys2 : (hi != 1500) = true := by rw [bne, ks2]; rfl
                  obtain rfl : R = 8 := by rw [HV.out, he, hs1, ks1, hs2, ks2]; rfl
                  go_wp2_with fail
                  go_ret
                  exact ⟨rfl, hB⟩
                | true =>
                  have ys2 : (hi != 1500) = false := by rw [bne, ks2]; rfl
                  obtain rfl : R = 0 := by rw [HV.out, he, hs1, ks1, hs2, ks2]; rfl
                  go_wp2_with fail
                  go_ret
                  exact ⟨rfl, hB⟩
  · have e1 : chkEndsI f p b = endsE f p := by unfold chkEndsI; rw [if_pos hE]
    have d1 : (endsE f p != 0) = true := by simpa using hE
    rw [e1]
    clear e1 hE
    generalize endsE f p = E at x0 d1 ⊢
    have X0 := Lib.hid (fun W v => x0 W v)
    clear x0
    unfold fiV at X0
    unfold fiV sV bndV
    go_enter Tryz.func29, Tryz.ntmps29
    obtain ⟨bf, bp, bb, bs_, -, HB⟩ := four_new w (.cells #[.int .i64 f.rise, .int .i64 f.fall, .int .i64 f.up, .int .i64 f.down, .slice A f.ls.length cap] 24) (.cells #[.int .i64 p.foot, .int .i64 p.hour] 26) (.cells #[.int .i64 b.lo, .int .i64 b.hi, .int .i64 b.low, .int .i64 b.high] 56) (.cells #[.int .i64 p.foot, .int .i64 p.hour] 26)
    go_wp2_with fail
    generalize ((((w.alloc (.cells #[.int .i64 f.rise, .int .i64 f.fall, .int .i64 f.up, .int .i64 f.down, .slice A f.ls.length cap] 24)).alloc (.cells #[.int .i64 p.foot, .int .i64 p.hour] 26)).alloc (.cells #[.int .i64 b.lo, .int .i64 b.hi, .int .i64 b.low, .int .i64 b.high] 56)).alloc (.cells #[.int .i64 p.foot, .int .i64 p.hour] 26)) = w1 at bf bp bb bs_ HB  ⊢
    have hB := HB
    clear HB
    have hk := HK.out.later hB
    have hs := spts1 bs_
    refine (X0.out w1 _ hk hs).mono ?_
    rintro e w2 ⟨rfl, hF⟩
    replace bf := (hF.block _ (size_of_block bf)).trans bf
    replace bp := (hF.block _ (size_of_block bp)).trans bp
    replace bb := (hF.block _ (size_of_block bb)).trans bb
    replace bs_ := (hF.block _ (size_of_block bs_)).trans bs_
    replace hk := hk.later hF
    replace hs := hs.later hF
    replace hB := below_then hB hF
    clear hF
    go_wp2_with fail
    go_ret
    exact ⟨rfl, hB⟩
end Go.Proofs.YtjpoacffnpgjdaaGreat
