/- The reference for fires: needed, hot, Needed (written by tools/genneedr.py). -/
import Derived.Test.YtjpoacffnpgjdaaGreatZFRefX
import Derived.Test.YtjpoacffnpgjdaaGreatJ2
namespace Go.Proofs.YtjpoacffnpgjdaaGreat
open Go Go.RowKit Go.Shelf
attribute [local go_sem] Oper.semAt_some Rel RelAt RelUpon

theorem five_new (w : World) (o0 o1 o2 o3 o4 : Obj) : (((((w.alloc o0).alloc o1).alloc o2).alloc o3).alloc o4).heap[w.heap.size]? = some o0 ∧ (((((w.alloc o0).alloc o1).alloc o2).alloc o3).alloc o4).heap[w.heap.size + 1]? = some o1 ∧ (((((w.alloc o0).alloc o1).alloc o2).alloc o3).alloc o4).heap[w.heap.size + 1 + 1]? = some o2 ∧ (((((w.alloc o0).alloc o1).alloc o2).alloc o3).alloc o4).heap[w.heap.size + 1 + 1 + 1]? = some o3 ∧ (((((w.alloc o0).alloc o1).alloc o2).alloc o3).alloc o4).heap[w.heap.size + 1 + 1 + 1 + 1]? = some o4 ∧ Below w.heap.size w (((((w.alloc o0).alloc o1).alloc o2).alloc o3).alloc o4) := by
  obtain ⟨h0, h1, h2, h3, hs, hb⟩ := four_new w o0 o1 o2 o3
  have b4 := below_alloc ((((w.alloc o0).alloc o1).alloc o2).alloc o3) o4
  refine ⟨(b4.block _ (size_of_block h0)).trans h0, (b4.block _ (size_of_block h1)).trans h1, (b4.block _ (size_of_block h2)).trans h2, (b4.block _ (size_of_block h3)).trans h3, ?_, below_then hb b4⟩
  have := heap_alloc_new ((((w.alloc o0).alloc o1).alloc o2).alloc o3) o4
  rwa [hs] at this
set_option maxRecDepth 100000 in
set_option maxHeartbeats 4000000 in
theorem needed_r (f : Fi) (vl : Value) (q p : Spt) (need : Int) (w : World) (hl : Lks w w.heap.size vl f.ls) (hok : FireOk f) (hq : spotB q = true) (hp : spotB p = true) (hn : heatB need = true) :
    Calls Tryz.prog 105 #[fiV f vl, sV q, sV p, .int .i64 need] w fun e w' => e = .returned (.int .i64 (needI f f.ls q p need)) ∧ Below w.heap.size w w' := by
  obtain ⟨A, cap, rfl⟩ := hl.form
  have HK := Lib.hid hl
  clear hl
  have x1 := fun W h => ends_r f (.slice A f.ls.length cap) q W h hok.slope hok.look hq
  have x2 := fun W h => ends_r f (.slice A f.ls.length cap) p W h hok.slope hok.look hp
  have x3 := fun W => far_r f A f.ls.length cap p q W hok.slope hp hq
  have hd := far_bounds (f := f) hok.slope hp hq
  have hnr := heat_iff.1 hn
  have hlo := lo_range hok.slope hok.look q
  obtain ⟨R, hR⟩ : ∃ r, r = needI f f.ls q p need := ⟨_, rfl⟩
  rw [← hR]
  have HR := Lib.hid (show R = if need ≤ endLo f f.ls p then endLo f f.ls q else if endHi f f.ls q < max (endLo f f.ls q) (need + farI f p q) then -1 else max (endLo f f.ls q) (need + farI f p q) from hR)
  clear hR hok hq hp hn
  have hwr : IntKind.i64.wrap (need + farI f p q) = need + farI f p q := by rw [IntKind.wrap_i64]; omega
  clear hd hnr
  generalize endLo f f.ls q = lo at x1 HR hlo
  generalize endHi f f.ls q = hi at x1 HR
  generalize endLo f f.ls p = lp at x2 HR
  generalize endHi f f.ls p = hp at x2
  generalize farI f p q = d at x3 HR hwr
  clear hlo
  have hf0 := Tryz.fieldSpn0
  have X1 := Lib.hid x1
  have X2 := Lib.hid x2
  clear x1 x2
  unfold fiV sV at X1 X2 x3
  have X3 := Lib.hid x3
  clear x3
  unfold fiV sV
  go_enter Tryz.func105, Tryz.ntmps105
  obtain ⟨bf, bq, bp, -, HB⟩ := three_new w (.cells #[.int .i64 f.rise, .int .i64 f.fall, .int .i64 f.up, .int .i64 f.down, .slice A f.ls.length cap] 24) (.cells #[.int .i64 q.foot, .int .i64 q.hour] 26) (.cells #[.int .i64 p.foot, .int .i64 p.hour] 26)
  go_wp2_with fail
  generalize (((w.alloc (.cells #[.int .i64 f.rise, .int .i64 f.fall, .int .i64 f.up, .int .i64 f.down, .slice A f.ls.length cap] 24)).alloc (.cells #[.int .i64 q.foot, .int .i64 q.hour] 26)).alloc (.cells #[.int .i64 p.foot, .int .i64 p.hour] 26)) = w1 at bf bq bp HB  ⊢
  have hB := HB
  clear HB
  have hk := HK.out.later hB
  refine (X1.out w1 hk).mono ?_
  rintro e w2 ⟨rfl, hF⟩
  replace bf := (hF.block _ (size_of_block bf)).trans bf
  replace bq := (hF.block _ (size_of_block bq)).trans bq
  replace bp := (hF.block _ (size_of_block bp)).trans bp
  replace hk := hk.later hF
  replace hB := below_then hB hF
  clear hF
  have bn := heap_alloc_new w2 (.cells #[.int .i64 lo, .int .i64 hi] 54)
  have HB := below_alloc w2 (.cells #[.int .i64 lo, .int .i64 hi] 54)
  have cbf0 := Joins.cell_of_block ((HB.block _ (size_of_block bf)).trans bf) 0
  have cbf1 := Joins.cell_of_block ((HB.block _ (size_of_block bf)).trans bf) 1
  have cbf2 := Joins.cell_of_block ((HB.block _ (size_of_block bf)).trans bf) 2
  have cbf3 := Joins.cell_of_block ((HB.block _ (size_of_block bf)).trans bf) 3
  have cbf4 := Joins.cell_of_block ((HB.block _ (size_of_block bf)).trans bf) 4
  have cbp0 := Joins.cell_of_block ((HB.block _ (size_of_block bp)).trans bp) 0
  have cbp1 := Joins.cell_of_block ((HB.block _ (size_of_block bp)).trans bp) 1
  go_wp2_with fail
  generalize (w2.alloc (.cells #[.int .i64 lo, .int .i64 hi] 54)) = w3 at bn HB cbf0 cbf1 cbf2 cbf3 cbf4 cbp0 cbp1 ⊢
  replace bf := (HB.block _ (size_of_block bf)).trans bf
  replace bq := (HB.block _ (size_of_block bq)).trans bq
  replace bp := (HB.block _ (size_of_block bp)).trans bp
  replace hk := hk.later HB
  replace hB := below_then hB HB
  clear HB
  refine (X2.out w3 hk).mono ?_
  rintro e w4 ⟨rfl, hF⟩
  clear cbf0 cbf1 cbf2 cbf3 cbf4 cbp0 cbp1
  replace bf := (hF.block _ (size_of_block bf)).trans bf
  replace bq := (hF.block _ (size_of_block bq)).trans bq
  replace bp := (hF.block _ (size_of_block bp)).trans bp
  replace bn := (hF.block _ (size_of_block bn)).trans bn
  replace hk := hk.later hF
  replace hB := below_then hB hF
  clear hF
  have n0 := Joins.cell_of_block bn 0
  by_cases hc : need ≤ lp
  · have d1 : decide (lp ≥ need) = true := decide_eq_true hc
    obtain rfl : R = lo := by rw [HR.out, if_pos hc]
    clear hc
    go_wp2_with fail
    go_ret
    exact ⟨rfl, hB⟩
  · have d1 : decide (lp ≥ need) = false := decide_eq_false hc
    have HR2 : Hid (R = if hi < max lo (need + d) then -1 else max lo (need + d)) := by show R = _; rw [HR.out, if_neg hc]
    clear hc HR
    go_wp2_with fail
    have cbf0 := Joins.cell_of_block bf 0
    have cbf1 := Joins.cell_of_block bf 1
    have cbf2 := Joins.cell_of_block bf 2
    have cbf3 := Joins.cell_of_block bf 3
    have cbf4 := Joins.cell_of_block bf 4
    have zbf := size_of_block bf
    have cbq0 := Joins.cell_of_block bq 0
    have cbq1 := Joins.cell_of_block bq 1
    have zbq := size_of_block bq
    have cbp0 := Joins.cell_of_block bp 0
    have cbp1 := Joins.cell_of_block bp 1
    have zbp := size_of_block bp
    have zbn := size_of_block bn
    refine wp_region_grown (by kernel_rfl) (by kernel_rfl) fun hcg => ?_
    repeat (go_big_quiet_step ((go_at_call 59; exact Calls.grown (X3.out _))))
    refine wpQuiet_nil ?_
    intro _ hw'
    obtain ⟨g, hw''⟩ := hw'
    subst hw''
    have gb := g.b
    generalize g.val = V at gb ⊢
    clear hcg g n0
    clear cbf0 cbf1 cbf2 cbf3 cbf4 cbq0 cbq1 cbp0 cbp1
    replace bf := (gb.block _ (size_of_block bf)).trans bf
    replace bq := (gb.block _ (size_of_block bq)).trans bq
    replace bp := (gb.block _ (size_of_block bp)).trans bp
    replace bn := (gb.block _ (size_of_block bn)).trans bn
    replace hk := hk.later gb
    replace hB := below_then hB gb
    clear gb zbf zbq zbp zbn
    have n1 := Joins.cell_of_block bn 1
    by_cases hh : hi < max lo (need + d)
    · have d2 : decide (max lo (need + d) > hi) = true := decide_eq_true hh
      obtain rfl : R = -1 := by rw [HR2.out, if_pos hh]
      clear hh
      go_wp2_with fail
      go_ret
      exact ⟨rfl, hB⟩
    · have d2 : decide (max lo (need + d) > hi) = false := decide_eq_false hh
      obtain rfl : R = max lo (need + d) := by rw [HR2.out, if_neg hh]
      clear hh
      go_wp2_with fail
      go_ret
      exact ⟨rfl, hB⟩
set_option maxRecDepth 100000 in
set_option maxHeartbeats 4000000 in
theorem hot_r (f : Fi) (vl v1 : Value) (l : List Spt) (p : Spt) (need : Int) (w : World) (hl : Lks w w.heap.size vl f.ls) (h1 : Spts w w.heap.size v1 l) :
    Calls Tryz.prog 104 #[fiV f vl, v1, sV p, .int .i64 need] w fun e w' => e = .returned (.int .i64 (decideE f l p need)) ∧ Below w.heap.size w w' := by
  obtain ⟨A, cap, rfl⟩ := hl.form
  obtain ⟨A1, cap1, rfl⟩ := h1.form
  have HK := Lib.hid hl
  have H1 := Lib.hid h1
  clear hl h1
  obtain ⟨R, hR⟩ : ∃ r, r = decideE f l p need := ⟨_, rfl⟩
  rw [← hR]
  have HR := Lib.hid (show R = knownE f [spotsI l, spotE p, heatE need] from hR)
  clear hR
  have x0 := fun W h => CheckR_c f (.slice A f.ls.length cap) W h
  have x1 := fun W h => spots_r (.slice A1 l.length cap1) l W h
  have x2 := fun W => spot_r p W
  by_cases hf : fireI f = 0
  · have HF : Hid (fireI f = 0) := hf
    have HOK := Lib.hid (fire_ok hf)
    rw [hf] at x0
    clear hf
    by_cases hq1 : spotsI l = 0
    · have HQ1 : Hid (spotsI l = 0) := hq1
      rw [hq1] at x1
      clear hq1
      cases hsp : spotB p with
      | false =>
        obtain rfl : R = 1 := by rw [HR.out]; exact known_at HF.out ((first_next HQ1.out).trans ((first_at0 (by unfold spotE; rw [hsp]; decide)).trans (by unfold spotE; rw [hsp]; rfl))) (by decide)
        rw [hsp] at x2
        clear hsp HR
        generalize hnb : heatB need = nb
        have X0 := Lib.hid x0
        have X1 := Lib.hid x1
        have X2 := Lib.hid x2
        clear x0 x1 x2
        unfold sV at X2
        unfold fiV sV
        go_enter Tryz.func104, Tryz.ntmps104
        obtain ⟨bf, bp, -, HB⟩ := two_new' w (.cells #[.int .i64 f.rise, .int .i64 f.fall, .int .i64 f.up, .int .i64 f.down, .slice A f.ls.length cap] 24) (.cells #[.int .i64 p.foot, .int .i64 p.hour] 26)
        go_wp2_with fail
        generalize ((w.alloc (.cells #[.int .i64 f.rise, .int .i64 f.fall, .int .i64 f.up, .int .i64 f.down, .slice A f.ls.length cap] 24)).alloc (.cells #[.int .i64 p.foot, .int .i64 p.hour] 26)) = w1 at bf bp HB  ⊢
        have hB := HB
        clear HB
        have hk := HK.out.later hB
        have hl := H1.out.later hB
        refine (X0.out w1 hk).mono ?_
        rintro e w2 ⟨rfl, hF⟩
        replace bf := (hF.block _ (size_of_block bf)).trans bf
        replace bp := (hF.block _ (size_of_block bp)).trans bp
        replace hk := hk.later hF
        replace hl := hl.later hF
        replace hB := below_then hB hF
        clear hF
        go_wp2_with fail
        refine (X1.out w2 hl).mono ?_
        rintro e w3 ⟨rfl, hF⟩
        replace bf := (hF.block _ (size_of_block bf)).trans bf
        replace bp := (hF.block _ (size_of_block bp)).trans bp
        replace hk := hk.later hF
        replace hl := hl.later hF
        replace hB := below_then hB hF
        clear hF
        have cbp0 := Joins.cell_of_block bp 0
        have cbp1 := Joins.cell_of_block bp 1
        go_wp2_with fail
        refine (X2.out w3).mono ?_
        rintro e w4 ⟨rfl, hF⟩
        clear cbp0 cbp1
        replace bf := (hF.block _ (size_of_block bf)).trans bf
        replace bp := (hF.block _ (size_of_block bp)).trans bp
        replace hk := hk.later hF
        replace hl := hl.later hF
        replace hB := below_then hB hF
        clear hF
        go_wp2_with fail
        refine (heat_r need _).mono ?_
        rintro e w' ⟨rfl, rfl⟩
        rw [hnb]
        go_wp2_with fail
        go_ret
        exact ⟨rfl, hB⟩
      | true =>
        rw [hsp] at x2
        have HS : Hid (spotE p = 0) := spotE_iff.2 hsp
        clear hsp
        cases hnb : heatB need with
        | false =>
          obtain rfl : R = 1 := by rw [HR.out]; exact known_at HF.out ((first_next HQ1.out).trans ((first_next HS.out).trans ((first_at0 (by unfold heatE; rw [hnb]; decide)).trans (by unfold heatE; rw [hnb]; rfl)))) (by decide)
          clear HR
          have X0 := Lib.hid x0
          have X1 := Lib.hid x1
          have X2 := Lib.hid x2
          clear x0 x1 x2
          unfold sV at X2
          unfold fiV sV
          go_enter Tryz.func104, Tryz.ntmps104
          obtain ⟨bf, bp, -, HB⟩ := two_new' w (.cells #[.int .i64 f.rise, .int .i64 f.fall, .int .i64 f.up, .int .i64 f.down, .slice A f.ls.length cap] 24) (.cells #[.int .i64 p.foot, .int .i64 p.hour] 26)
          go_wp2_with fail
          generalize ((w.alloc (.cells #[.int .i64 f.rise, .int .i64 f.fall, .int .i64 f.up, .int .i64 f.down, .slice A f.ls.length cap] 24)).alloc (.cells #[.int .i64 p.foot, .int .i64 p.hour] 26)) = w1 at bf bp HB  ⊢
          have hB := HB
          clear HB
          have hk := HK.out.later hB
          have hl := H1.out.later hB
          refine (X0.out w1 hk).mono ?_
          rintro e w2 ⟨rfl, hF⟩
          replace bf := (hF.block _ (size_of_block bf)).trans bf
          replace bp := (hF.block _ (size_of_block bp)).trans bp
          replace hk := hk.later hF
          replace hl := hl.later hF
          replace hB := below_then hB hF
          clear hF
          go_wp2_with fail
          refine (X1.out w2 hl).mono ?_
          rintro e w3 ⟨rfl, hF⟩
          replace bf := (hF.block _ (size_of_block bf)).trans bf
          replace bp := (hF.block _ (size_of_block bp)).trans bp
          replace hk := hk.later hF
          replace hl := hl.later hF
          replace hB := below_then hB hF
          clear hF
          have cbp0 := Joins.cell_of_block bp 0
          have cbp1 := Joins.cell_of_block bp 1
          go_wp2_with fail
          refine (X2.out w3).mono ?_
          rintro e w4 ⟨rfl, hF⟩
          clear cbp0 cbp1
          replace bf := (hF.block _ (size_of_block bf)).trans bf
          replace bp := (hF.block _ (size_of_block bp)).trans bp
          replace hk := hk.later hF
          replace hl := hl.later hF
          replace hB := below_then hB hF
          clear hF
          go_wp2_with fail
          refine (heat_r need _).mono ?_
          rintro e w' ⟨rfl, rfl⟩
          rw [hnb]
          go_wp2_with fail
          go_ret
          exact ⟨rfl, hB⟩
        | true =>
          have HN : Hid (heatE need = 0) := heatE_iff.2 hnb
          cases hag : agreeB f f.ls with
          | false =>
            obtain rfl : R = 9 := by rw [HR.out]; exact known_clash HF.out ((first_next HQ1.out).trans ((first_next HS.out).trans ((first_next HN.out).trans rfl))) hag
            clear HR
            have X0 := Lib.hid x0
            have X1 := Lib.hid x1
            have X2 := Lib.hid x2
            clear x0 x1 x2
            unfold sV at X2
            unfold fiV sV
            go_enter Tryz.func104, Tryz.ntmps104
            obtain ⟨bf, bp, -, HB⟩ := two_new' w (.cells #[.int .i64 f.rise, .int .i64 f.fall, .int .i64 f.up, .int .i64 f.down, .slice A f.ls.length cap] 24) (.cells #[.int .i64 p.foot, .int .i64 p.hour] 26)
            go_wp2_with fail
            generalize ((w.alloc (.cells #[.int .i64 f.rise, .int .i64 f.fall, .int .i64 f.up, .int .i64 f.down, .slice A f.ls.length cap] 24)).alloc (.cells #[.int .i64 p.foot, .int .i64 p.hour] 26)) = w1 at bf bp HB  ⊢
            have hB := HB
            clear HB
            have hk := HK.out.later hB
            have hl := H1.out.later hB
            refine (X0.out w1 hk).mono ?_
            rintro e w2 ⟨rfl, hF⟩
            replace bf := (hF.block _ (size_of_block bf)).trans bf
            replace bp := (hF.block _ (size_of_block bp)).trans bp
            replace hk := hk.later hF
            replace hl := hl.later hF
            replace hB := below_then hB hF
            clear hF
            go_wp2_with fail
            refine (X1.out w2 hl).mono ?_
            rintro e w3 ⟨rfl, hF⟩
            replace bf := (hF.block _ (size_of_block bf)).trans bf
            replace bp := (hF.block _ (size_of_block bp)).trans bp
            replace hk := hk.later hF
            replace hl := hl.later hF
            replace hB := below_then hB hF
            clear hF
            have cbp0 := Joins.cell_of_block bp 0
            have cbp1 := Joins.cell_of_block bp 1
            go_wp2_with fail
            refine (X2.out w3).mono ?_
            rintro e w4 ⟨rfl, hF⟩
            clear cbp0 cbp1
            replace bf := (hF.block _ (size_of_block bf)).trans bf
            replace bp := (hF.block _ (size_of_block bp)).trans bp
            replace hk := hk.later hF
            replace hl := hl.later hF
            replace hB := below_then hB hF
            clear hF
            go_wp2_with fail
            refine (heat_r need _).mono ?_
            rintro e w' ⟨rfl, rfl⟩
            rw [hnb]
            have cbf0 := Joins.cell_of_block bf 0
            have cbf1 := Joins.cell_of_block bf 1
            have cbf2 := Joins.cell_of_block bf 2
            have cbf3 := Joins.cell_of_block bf 3
            have cbf4 := Joins.cell_of_block bf 4
            go_wp2_with fail
            refine (agree_r f (.slice A f.ls.length cap) w4 hk HOK.out.slope HOK.out.look).mono ?_
            rintro e w5 ⟨rfl, hF⟩
            clear cbf0 cbf1 cbf2 cbf3 cbf4
            replace bf := (hF.block _ (size_of_block bf)).trans bf
            replace bp := (hF.block _ (size_of_block bp)).trans bp
            replace hk := hk.later hF
            replace hl := hl.later hF
            replace hB := below_then hB hF
            clear hF
            rw [hag]
            go_wp2_with fail
            go_ret
            exact ⟨rfl, hB⟩
          | true =>
            obtain rfl : R = 0 := by rw [HR.out]; exact known_ok HF.out ((first_next HQ1.out).trans ((first_next HS.out).trans ((first_next HN.out).trans rfl))) hag
            clear HR
            have X0 := Lib.hid x0
            have X1 := Lib.hid x1
            have X2 := Lib.hid x2
            clear x0 x1 x2
            unfold sV at X2
            unfold fiV sV
            go_enter Tryz.func104, Tryz.ntmps104
            obtain ⟨bf, bp, -, HB⟩ := two_new' w (.cells #[.int .i64 f.rise, .int .i64 f.fall, .int .i64 f.up, .int .i64 f.down, .slice A f.ls.length cap] 24) (.cells #[.int .i64 p.foot, .int .i64 p.hour] 26)
            go_wp2_with fail
            generalize ((w.alloc (.cells #[.int .i64 f.rise, .int .i64 f.fall, .int .i64 f.up, .int .i64 f.down, .slice A f.ls.length cap] 24)).alloc (.cells #[.int .i64 p.foot, .int .i64 p.hour] 26)) = w1 at bf bp HB  ⊢
            have hB := HB
            clear HB
            have hk := HK.out.later hB
            have hl := H1.out.later hB
            refine (X0.out w1 hk).mono ?_
            rintro e w2 ⟨rfl, hF⟩
            replace bf := (hF.block _ (size_of_block bf)).trans bf
            replace bp := (hF.block _ (size_of_block bp)).trans bp
            replace hk := hk.later hF
            replace hl := hl.later hF
            replace hB := below_then hB hF
            clear hF
            go_wp2_with fail
            refine (X1.out w2 hl).mono ?_
            rintro e w3 ⟨rfl, hF⟩
            replace bf := (hF.block _ (size_of_block bf)).trans bf
            replace bp := (hF.block _ (size_of_block bp)).trans bp
            replace hk := hk.later hF
            replace hl := hl.later hF
            replace hB := below_then hB hF
            clear hF
            have cbp0 := Joins.cell_of_block bp 0
            have cbp1 := Joins.cell_of_block bp 1
            go_wp2_with fail
            refine (X2.out w3).mono ?_
            rintro e w4 ⟨rfl, hF⟩
            clear cbp0 cbp1
            replace bf := (hF.block _ (size_of_block bf)).trans bf
            replace bp := (hF.block _ (size_of_block bp)).trans bp
            replace hk := hk.later hF
            replace hl := hl.later hF
            replace hB := below_then hB hF
            clear hF
            go_wp2_with fail
            refine (heat_r need _).mono ?_
            rintro e w' ⟨rfl, rfl⟩
            rw [hnb]
            have cbf0 := Joins.cell_of_block bf 0
            have cbf1 := Joins.cell_of_block bf 1
            have cbf2 := Joins.cell_of_block bf 2
            have cbf3 := Joins.cell_of_block bf 3
            have cbf4 := Joins.cell_of_block bf 4
            go_wp2_with fail
            refine (agree_r f (.slice A f.ls.length cap) w4 hk HOK.out.slope HOK.out.look).mono ?_
            rintro e w5 ⟨rfl, hF⟩
            clear cbf0 cbf1 cbf2 cbf3 cbf4
            replace bf := (hF.block _ (size_of_block bf)).trans bf
            replace bp := (hF.block _ (size_of_block bp)).trans bp
            replace hk := hk.later hF
            replace hl := hl.later hF
            replace hB := below_then hB hF
            clear hF
            rw [hag]
            go_wp2_with fail
            go_ret
            exact ⟨rfl, hB⟩
    · obtain rfl : R = spotsI l := by rw [HR.out]; exact known_at HF.out (first_at0 hq1) hq1
      have d9 : (spotsI l != 0) = true := by simpa using hq1
      clear hq1 HR
      generalize spotsI l = E at x1 d9 ⊢
      have X0 := Lib.hid x0
      have X1 := Lib.hid x1
      have X2 := Lib.hid x2
      clear x0 x1 x2
      unfold sV at X2
      unfold fiV sV
      go_enter Tryz.func104, Tryz.ntmps104
      obtain ⟨bf, bp, -, HB⟩ := two_new' w (.cells #[.int .i64 f.rise, .int .i64 f.fall, .int .i64 f.up, .int .i64 f.down, .slice A f.ls.length cap] 24) (.cells #[.int .i64 p.foot, .int .i64 p.hour] 26)
      go_wp2_with fail
      generalize ((w.alloc (.cells #[.int .i64 f.rise, .int .i64 f.fall, .int .i64 f.up, .int .i64 f.down, .slice A f.ls.length cap] 24)).alloc (.cells #[.int .i64 p.foot, .int .i64 p.hour] 26)) = w1 at bf bp HB  ⊢
      have hB := HB
      clear HB
      have hk := HK.out.later hB
      have hl := H1.out.later hB
      refine (X0.out w1 hk).mono ?_
      rintro e w2 ⟨rfl, hF⟩
      replace bf := (hF.block _ (size_of_block bf)).trans bf
      replace bp := (hF.block _ (size_of_block bp)).trans bp
      replace hk := hk.later hF
      replace hl := hl.later hF
      replace hB := below_then hB hF
      clear hF
      go_wp2_with fail
      refine (X1.out w2 hl).mono ?_
      rintro e w3 ⟨rfl, hF⟩
      replace bf := (hF.block _ (size_of_block bf)).trans bf
      replace bp := (hF.block _ (size_of_block bp)).trans bp
      replace hk := hk.later hF
      replace hl := hl.later hF
      replace hB := below_then hB hF
      clear hF
      go_wp2_with fail
      go_ret
      exact ⟨rfl, hB⟩
  · obtain rfl : R = fireI f := by rw [HR.out]; exact known_fire hf
    have d9 : (fireI f != 0) = true := by simpa using hf
    clear hf HR
    generalize fireI f = E at x0 d9 ⊢
    have X0 := Lib.hid x0
    have X1 := Lib.hid x1
    have X2 := Lib.hid x2
    clear x0 x1 x2
    unfold sV at X2
    unfold fiV sV
    go_enter Tryz.func104, Tryz.ntmps104
    obtain ⟨bf, bp, -, HB⟩ := two_new' w (.cells #[.int .i64 f.rise, .int .i64 f.fall, .int .i64 f.up, .int .i64 f.down, .slice A f.ls.length cap] 24) (.cells #[.int .i64 p.foot, .int .i64 p.hour] 26)
    go_wp2_with fail
    generalize ((w.alloc (.cells #[.int .i64 f.rise, .int .i64 f.fall, .int .i64 f.up, .int .i64 f.down, .slice A f.ls.length cap] 24)).alloc (.cells #[.int .i64 p.foot, .int .i64 p.hour] 26)) = w1 at bf bp HB  ⊢
    have hB := HB
    clear HB
    have hk := HK.out.later hB
    have hl := H1.out.later hB
    refine (X0.out w1 hk).mono ?_
    rintro e w2 ⟨rfl, hF⟩
    replace bf := (hF.block _ (size_of_block bf)).trans bf
    replace bp := (hF.block _ (size_of_block bp)).trans bp
    replace hk := hk.later hF
    replace hl := hl.later hF
    replace hB := below_then hB hF
    clear hF
    go_wp2_with fail
    go_ret
    exact ⟨rfl, hB⟩
set_option maxRecDepth 100000 in
set_option maxHeartbeats 4000000 in
theorem NeededR_c (f : Fi) (vl : Value) (q p : Spt) (need : Int) (w : World) (hl : Lks w w.heap.size vl f.ls) :
    Calls Tryz.prog 50 #[fiV f vl, sV q, sV p, .int .i64 need] w fun e w' => e = .returned (.agg #[.int .i64 (neededR f q p need).1, .bool (neededR f q p need).2, .int .i64 (needE f q p need)]) ∧ Below w.heap.size w w' := by
  obtain ⟨A, cap, rfl⟩ := hl.form
  have HK := Lib.hid hl
  clear hl
  have x0 := fun W v h h1 => hot_r f (.slice A f.ls.length cap) v [q] p need W h h1
  rw [need_decide] at x0
  by_cases hE : needE f q p need = 0
  · obtain ⟨hok, hq, hp, hn, -⟩ := need_zero hE
    have x1 := fun W h => needed_r f (.slice A f.ls.length cap) q p need W h hok hq hp hn
    have hD : neededR f q p need = if needI f f.ls q p need < 0 then (0, false) else (needI f f.ls q p need, true) := by unfold neededR; rw [if_pos hE]
    rw [hD, hE]
    rw [hE] at x0
    clear hD hE hok hq hp hn
    generalize needI f f.ls q p need = m at x1 ⊢
    by_cases hm : m < 0
    · have d2 : decide (m < 0) = true := decide_eq_true hm
      rw [if_pos hm]
      clear hm
      have X0 := Lib.hid (fun W v => x0 W v)
      clear x0
      have X1 := Lib.hid x1
      clear x1
      unfold fiV sV at X1
      unfold fiV at X0
      unfold sV at X0
      unfold fiV sV
      go_enter Tryz.func50, Tryz.ntmps50
      obtain ⟨bf, bq, bp, br, bs_, hB⟩ := five_new w (.cells #[.int .i64 f.rise, .int .i64 f.fall, .int .i64 f.up, .int .i64 f.down, .slice A f.ls.length cap] 24) (.cells #[.int .i64 q.foot, .int .i64 q.hour] 26) (.cells #[.int .i64 p.foot, .int .i64 p.hour] 26) (.cells #[.int .i64 0, .bool false, .int .i64 0] 96) (.cells #[.int .i64 q.foot, .int .i64 q.hour] 26)
      go_wp2_with fail
      generalize ((((w.alloc _).alloc _).alloc _).alloc _).alloc _ = W5 at bf bq bp br bs_ hB ⊢
      have hk := HK.out.later hB
      have hs := spts1 bs_
      clear bs_
      refine (X0.out W5 _ hk hs).mono ?_
      rintro e w1 ⟨rfl, hF⟩
      replace bf := (hF.block _ (size_of_block bf)).trans bf
      replace bq := (hF.block _ (size_of_block bq)).trans bq
      replace bp := (hF.block _ (size_of_block bp)).trans bp
      replace br := (hF.block _ (size_of_block br)).trans br
      replace hk := hk.later hF
      replace hs := hs.later hF
      replace hB := below_then hB hF
      clear hF
      have cbf0 := Joins.cell_of_block bf 0
      have cbf1 := Joins.cell_of_block bf 1
      have cbf2 := Joins.cell_of_block bf 2
      have cbf3 := Joins.cell_of_block bf 3
      have cbf4 := Joins.cell_of_block bf 4
      have cbq0 := Joins.cell_of_block bq 0
      have cbq1 := Joins.cell_of_block bq 1
      have cbp0 := Joins.cell_of_block bp 0
      have cbp1 := Joins.cell_of_block bp 1
      go_wp2_with fail
      refine (X1.out w1 hk).mono ?_
      rintro e w2 ⟨rfl, hF⟩
      clear cbf0 cbf1 cbf2 cbf3 cbf4 cbq0 cbq1 cbp0 cbp1
      replace bf := (hF.block _ (size_of_block bf)).trans bf
      replace bq := (hF.block _ (size_of_block bq)).trans bq
      replace bp := (hF.block _ (size_of_block bp)).trans bp
      replace br := (hF.block _ (size_of_block br)).trans br
      replace hk := hk.later hF
      replace hs := hs.later hF
      replace hB := below_then hB hF
      clear hF
      have HP := Lib.hid (fun j : Nat => cell_setRow_same w2 (w.heap.size + 1 + 1 + 1) j _ #[.int .i64 0, .bool false, .int .i64 0] _ _ br)
      have BF := below_setRow hB (show w.heap.size ≤ w.heap.size + 1 + 1 + 1 by omega) #[.int .i64 0, .bool false, .int .i64 0]
      go_wp2_with (refine wpList_store_rowTo rfl 96 _ _ rfl rfl (w.heap.size + 1 + 1 + 1) #[.int .i64 0, .bool false, .int .i64 0] rfl rfl 96 _ br (by kernel_rfl) rfl (by kernel_rfl) ?_)
      refine bodyPost_ret (v := .agg #[.int .i64 0, .bool false, .int .i64 0]) ?_ rfl ⟨rfl, BF⟩
      simp [results, Tryz.results50, go_sem, HP.out]
    · have d2 : decide (m < 0) = false := decide_eq_false hm
      rw [if_neg hm]
      clear hm
      have X0 := Lib.hid (fun W v => x0 W v)
      clear x0
      have X1 := Lib.hid x1
      clear x1
      unfold fiV sV at X1
      unfold fiV at X0
      unfold sV at X0
      unfold fiV sV
      go_enter Tryz.func50, Tryz.ntmps50
      obtain ⟨bf, bq, bp, br, bs_, hB⟩ := five_new w (.cells #[.int .i64 f.rise, .int .i64 f.fall, .int .i64 f.up, .int .i64 f.down, .slice A f.ls.length cap] 24) (.cells #[.int .i64 q.foot, .int .i64 q.hour] 26) (.cells #[.int .i64 p.foot, .int .i64 p.hour] 26) (.cells #[.int .i64 0, .bool false, .int .i64 0] 96) (.cells #[.int .i64 q.foot, .int .i64 q.hour] 26)
      go_wp2_with fail
      generalize ((((w.alloc _).alloc _).alloc _).alloc _).alloc _ = W5 at bf bq bp br bs_ hB ⊢
      have hk := HK.out.later hB
      have hs := spts1 bs_
      clear bs_
      refine (X0.out W5 _ hk hs).mono ?_
      rintro e w1 ⟨rfl, hF⟩
      replace bf := (hF.block _ (size_of_block bf)).trans bf
      replace bq := (hF.block _ (size_of_block bq)).trans bq
      replace bp := (hF.block _ (size_of_block bp)).trans bp
      replace br := (hF.block _ (size_of_block br)).trans br
      replace hk := hk.later hF
      replace hs := hs.later hF
      replace hB := below_then hB hF
      clear hF
      have cbf0 := Joins.cell_of_block bf 0
      have cbf1 := Joins.cell_of_block bf 1
      have cbf2 := Joins.cell_of_block bf 2
      have cbf3 := Joins.cell_of_block bf 3
      have cbf4 := Joins.cell_of_block bf 4
      have cbq0 := Joins.cell_of_block bq 0
      have cbq1 := Joins.cell_of_block bq 1
      have cbp0 := Joins.cell_of_block bp 0
      have cbp1 := Joins.cell_of_block bp 1
      go_wp2_with fail
      refine (X1.out w1 hk).mono ?_
      rintro e w2 ⟨rfl, hF⟩
      clear cbf0 cbf1 cbf2 cbf3 cbf4 cbq0 cbq1 cbp0 cbp1
      replace bf := (hF.block _ (size_of_block bf)).trans bf
      replace bq := (hF.block _ (size_of_block bq)).trans bq
      replace bp := (hF.block _ (size_of_block bp)).trans bp
      replace br := (hF.block _ (size_of_block br)).trans br
      replace hk := hk.later hF
      replace hs := hs.later hF
      replace hB := below_then hB hF
      clear hF
      have HP := Lib.hid (fun j : Nat => cell_setRow_same w2 (w.heap.size + 1 + 1 + 1) j _ #[.int .i64 m, .bool true, .int .i64 0] _ _ br)
      have BF := below_setRow hB (show w.heap.size ≤ w.heap.size + 1 + 1 + 1 by omega) #[.int .i64 m, .bool true, .int .i64 0]
      go_wp2_with (refine wpList_store_rowTo rfl 96 _ _ rfl rfl (w.heap.size + 1 + 1 + 1) #[.int .i64 m, .bool true, .int .i64 0] rfl rfl 96 _ br (by kernel_rfl) rfl (by kernel_rfl) ?_)
      refine bodyPost_ret (v := .agg #[.int .i64 m, .bool true, .int .i64 0]) ?_ rfl ⟨rfl, BF⟩
      simp [results, Tryz.results50, go_sem, HP.out]
  · have hD : neededR f q p need = (0, false) := by unfold neededR; rw [if_neg hE]
    have d1 : (needE f q p need != 0) = true := by simpa using hE
    rw [hD]
    clear hD hE
    generalize needE f q p need = E at x0 d1 ⊢
    have X0 := Lib.hid (fun W v => x0 W v)
    clear x0
    unfold fiV at X0
    unfold sV at X0
    unfold fiV sV
    go_enter Tryz.func50, Tryz.ntmps50
    obtain ⟨bf, bq, bp, br, bs_, hB⟩ := five_new w (.cells #[.int .i64 f.rise, .int .i64 f.fall, .int .i64 f.up, .int .i64 f.down, .slice A f.ls.length cap] 24) (.cells #[.int .i64 q.foot, .int .i64 q.hour] 26) (.cells #[.int .i64 p.foot, .int .i64 p.hour] 26) (.cells #[.int .i64 0, .bool false, .int .i64 0] 96) (.cells #[.int .i64 q.foot, .int .i64 q.hour] 26)
    go_wp2_with fail
    generalize ((((w.alloc _).alloc _).alloc _).alloc _).alloc _ = W5 at bf bq bp br bs_ hB ⊢
    have hk := HK.out.later hB
    have hs := spts1 bs_
    clear bs_
    refine (X0.out W5 _ hk hs).mono ?_
    rintro e w1 ⟨rfl, hF⟩
    replace bf := (hF.block _ (size_of_block bf)).trans bf
    replace bq := (hF.block _ (size_of_block bq)).trans bq
    replace bp := (hF.block _ (size_of_block bp)).trans bp
    replace br := (hF.block _ (size_of_block br)).trans br
    replace hk := hk.later hF
    replace hs := hs.later hF
    replace hB := below_then hB hF
    clear hF
    have HP := Lib.hid (fun j : Nat => cell_setRow_same w1 (w.heap.size + 1 + 1 + 1) j _ #[.int .i64 0, .bool false, .int .i64 E] _ _ br)
    have BF := below_setRow hB (show w.heap.size ≤ w.heap.size + 1 + 1 + 1 by omega) #[.int .i64 0, .bool false, .int .i64 E]
    go_wp2_with (refine wpList_store_rowTo rfl 96 _ _ rfl rfl (w.heap.size + 1 + 1 + 1) #[.int .i64 0, .bool false, .int .i64 E] rfl rfl 96 _ br (by kernel_rfl) rfl (by kernel_rfl) ?_)
    refine bodyPost_ret (v := .agg #[.int .i64 0, .bool false, .int .i64 E]) ?_ rfl ⟨rfl, BF⟩
    simp [results, Tryz.results50, go_sem, HP.out]
end Go.Proofs.YtjpoacffnpgjdaaGreat
