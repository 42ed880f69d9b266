/- The reference for fires: Decides (written by tools/gendecr.py). -/
import Derived.Test.YtjpoacffnpgjdaaGreatZFRefY
namespace Go.Proofs.YtjpoacffnpgjdaaGreat
open Go Go.RowKit Go.Shelf
attribute [local go_sem] Oper.semAt_some Rel RelAt RelUpon

theorem inds_yesZ {α : Type} {P : α → Bool} {l : List α} {j : Nat} {x : α} (hx : l[j]? = some x) (h : P x = true) : indsF P l (j + 1) = indsF P l j ++ [(j : Int)] := by
  conv => lhs; unfold indsF
  rw [hx]; dsimp only; rw [if_pos h]
theorem inds_noZ {α : Type} {P : α → Bool} {l : List α} {j : Nat} {x : α} (hx : l[j]? = some x) (h : P x = false) : indsF P l (j + 1) = indsF P l j := by
  conv => lhs; unfold indsF
  rw [hx]; dsimp only; rw [if_neg (by rw [h]; simp)]
theorem inds_lenZ {α : Type} (P : α → Bool) (l : List α) : ∀ j, (indsF P l j).length ≤ j
  | 0 => Nat.le_refl _
  | j + 1 => by
    have ih := inds_lenZ P l j
    cases hx : l[j]? with
    | none => unfold indsF; rw [hx]; dsimp only; omega
    | some x =>
      cases hp : P x with
      | true => rw [inds_yesZ hx hp, List.length_append]; simp; omega
      | false => rw [inds_noZ hx hp]; omega
theorem decide_zero {f : Fi} {l : List Spt} {p : Spt} {need : Int} (h : decideE f l p need = 0) : FireOk f ∧ (∀ q ∈ l, spotB q = true) ∧ l.length ≤ 24 ∧ spotB p = true ∧ heatB need = true := by
  obtain ⟨h1, h2, _⟩ := known_zero h
  obtain ⟨a, b, c⟩ := first3.1 h2
  obtain ⟨d, e⟩ := spotsI_iff.1 a
  exact ⟨fire_ok h1, e, d, spotE_iff.1 b, heatE_iff.1 c⟩
set_option maxRecDepth 100000 in
set_option maxHeartbeats 8000000 in
theorem DecidesR_c (f : Fi) (vl v1 : Value) (l : List Spt) (p : Spt) (need : Int) (w : World) (hl : Lks w w.heap.size vl f.ls) (h1 : Spts w w.heap.size v1 l) :
    Calls Tryz.prog 52 #[fiV f vl, v1, sV p, .int .i64 need] w fun e w' => ∃ u, e = .returned (.agg #[u, .int .i64 (decideE f l p need)]) ∧ w'.ownsRow w.heap.size 3 1 u (decideR f l p need).length ((decideR f l p need).map (Value.int .i64)) ∧ Below w.heap.size w w' := by
  obtain ⟨A, cap, rfl⟩ := hl.form
  obtain ⟨A1, cap1, rfl, _, hn, hat⟩ := Spts.open_ h1
  have H := Lib.hid hat
  have HK := Lib.hid hl
  have H1 := Lib.hid h1
  clear hl h1 hat
  have x0 := fun W h h1 => hot_r f (.slice A f.ls.length cap) (.slice A1 l.length cap1) l p need W h h1
  obtain ⟨q0, q1, q2, -, qb⟩ := three_new w (.cells #[.int .i64 f.rise, .int .i64 f.fall, .int .i64 f.up, .int .i64 f.down, .slice A f.ls.length cap] 24) (.cells #[.int .i64 p.foot, .int .i64 p.hour] 26) (.cells #[.slice none 0 0, .int .i64 0] 41)
  have hk := HK.out.later qb
  have h1 := H1.out.later qb
  by_cases hE : decideE f l p need = 0
  · have hD : decideR f l p need = indsF (fun q => decideB f f.ls q p need) l l.length := by unfold decideR; rw [if_pos hE]
    rw [hD, hE]
    rw [hE] at x0
    obtain ⟨hok, hsp, hl24, hp, hnd⟩ := decide_zero hE
    have XN := Lib.hid (fun W q (hq : q ∈ l) h => needed_r f (.slice A f.ls.length cap) q p need W h hok (hsp q hq) hp hnd)
    have XE := Lib.hid (fun W q (hq : q ∈ l) h => ends_r f (.slice A f.ls.length cap) q W h hok.slope hok.look (hsp q hq))
    have XP := Lib.hid (fun W h => ends_r f (.slice A f.ls.length cap) p W h hok.slope hok.look hp)
    have XF := Lib.hid (fun W q (hq : q ∈ l) => far_r f A f.ls.length cap q p W hok.slope (hsp q hq) hp)
    have HFB := Lib.hid (fun q (hq : q ∈ l) => far_bounds (f := f) hok.slope (hsp q hq) hp)
    have HLR := Lib.hid (fun q => lo_range (f := f) hok.slope hok.look q)
    have HY0 : Hid (∀ (j : Nat) q, l[j]? = some q → indsF (fun q => decideB f f.ls q p need) l (j + 1) = if decideB f f.ls q p need then indsF (fun q => decideB f f.ls q p need) l j ++ [(j : Int)] else indsF (fun q => decideB f f.ls q p need) l j) := by
      intro j q hq
      cases hb : decideB f f.ls q p need with
      | true => rw [if_pos rfl]; exact inds_yesZ hq hb
      | false => rw [if_neg (by simp)]; exact inds_noZ hq hb
    have HLEN := Lib.hid (fun j : Nat => inds_lenZ (fun q => decideB f f.ls q p need) l j)
    have HZ : Hid (indsF (fun q => decideB f f.ls q p need) l 0 = []) := rfl
    have X0 := Lib.hid x0
    have HK1 := Lib.hid hk
    have H11 := Lib.hid h1
    have H24 := Lib.hid hl24
    clear hD hE hok hsp hl24 hp hnd x0 hk h1
    have hds : Hid (∀ q, decideB f f.ls q p need = (decide (endLo f f.ls q < needI f f.ls q p need) && decide (min (endHi f f.ls p) (endLo f f.ls q + farI f q p) < need))) := fun q => rfl
    generalize indsF (fun q => decideB f f.ls q p need) l = IN at HY0 HLEN HZ ⊢
    obtain ⟨i0, hi, hz0, hz1, hz2⟩ := info_parts Tryz.infoIntF
    have HI := Lib.hid hi
    have HI0 := Lib.hid hz0
    have HI1 := Lib.hid hz1
    have HI2 := Lib.hid hz2
    clear hi hz0 hz1 hz2
    have hf0 := Tryz.fieldSpn0
    have hf1 := Tryz.fieldSpn1
    unfold fiV sV at XN XE XP XF
    unfold sV at X0
    unfold fiV sV
    go_enter Tryz.func52, Tryz.ntmps52
    go_wp2_with fail
    generalize ((w.alloc _).alloc _).alloc _ = W2 at q0 q1 q2 qb HK1 H11 ⊢
    refine (X0.out W2 HK1.out H11.out).mono ?_
    rintro e W3 ⟨rfl, hF⟩
    have bf := (hF.block _ (size_of_block q0)).trans q0
    have bp := (hF.block _ (size_of_block q1)).trans q1
    have br := (hF.block _ (size_of_block q2)).trans q2
    have hB := below_then qb hF
    clear hF q0 q1 q2 qb HK1 H11
    go_wp2_with fail
    go_loopw [10, 11] (fun v i wr => ∃ j : Nat, j ≤ l.length ∧ i = .int .i64 j ∧ wr.ownsRow w.heap.size 3 1 v (IN j).length ((IN j).map (Value.int .i64)) ∧ wr.heap[w.heap.size]? = some (.cells #[.int .i64 f.rise, .int .i64 f.fall, .int .i64 f.up, .int .i64 f.down, .slice A f.ls.length cap] 24) ∧ wr.heap[w.heap.size + 1]? = some (.cells #[.int .i64 p.foot, .int .i64 p.hour] 26) ∧ wr.heap[w.heap.size + 1 + 1]? = some (.cells #[.slice none 0 0, .int .i64 0] 41) ∧ Below w.heap.size w wr) (fun _ i _ => l.length - (intOf i).toNat)
    case atStart => exact ⟨0, Nat.zero_le _, rfl, by rw [HZ.out]; exact World.ownsRow_nil _ _ _ _, bf, bp, br, hB⟩
    case round =>
      clear bf bp br hB
      obtain ⟨j, hj, rfl, hown, bf, bp, br, hbw⟩ := hrel
      have h24 := H24.out
      by_cases hlt : j < l.length
      · obtain ⟨b, off, q, rfl, hb, hx0, c0, c1⟩ := H.out j hlt
        have hqm := List.mem_of_getElem? hx0
        have xn := fun W h => XN.out W q hqm h
        have xe := fun W h => XE.out W q hqm h
        have xf := fun W => XF.out W q hqm
        have hfb := HFB.out q hqm
        have hlr := HLR.out q
        have hy := HY0.out j q hx0
        rw [hds.out q] at hy
        have xp := XP.out
        clear hx0 hqm
        generalize needI f f.ls q p need = h at xn hy
        generalize endLo f f.ls q = lo at xe hy hlr
        generalize farI f q p = d at xf hy hfb
        generalize endHi f f.ls p = hi at xp hy
        have hwr : IntKind.i64.wrap (lo + d) = lo + d := by rw [IntKind.wrap_i64]; omega
        have HYY := Lib.hid hy
        have X5 := Lib.hid xe
        have X6 := Lib.hid xf
        have X7 := Lib.hid xp
        clear hy hfb hlr xe xf xp
        have zbf := size_of_block bf
        have zbp := size_of_block bp
        have k0 := Joins.cell_of_block bf 0
        have k1 := Joins.cell_of_block bf 1
        have k2 := Joins.cell_of_block bf 2
        have k3 := Joins.cell_of_block bf 3
        have k4 := Joins.cell_of_block bf 4
        have g0 := Joins.cell_of_block bp 0
        have g1 := Joins.cell_of_block bp 1
        have e0 := (hbw.cell (p := ⟨b, off + j * 2, none⟩) hb).trans c0
        have e1 := (hbw.cell (p := ⟨b, off + j * 2 + 1, none⟩) hb).trans c1
        have hzb : b < wr.heap.size := Nat.lt_of_lt_of_le hb hbw.size
        have hk := HK.out.later hbw
        go_wp2_with fail
        refine wp_region_grown (by kernel_rfl) (by kernel_rfl) fun hcg => ?_
        repeat (go_big_quiet_step ((go_at_call 105; exact Calls.grown (xn _ (hk.later (Gr.b _))))))
        refine wpQuiet_nil ?_
        intro _ hw'
        obtain ⟨g, hw''⟩ := hw'
        subst hw''
        have gb := g.b
        generalize g.val = wA at gb ⊢
        clear hcg g zbf zbp k0 k1 k2 k3 k4 g0 g1 e0 e1 hzb hk xn
        replace bf := (gb.block _ (size_of_block bf)).trans bf
        replace bp := (gb.block _ (size_of_block bp)).trans bp
        replace br := (gb.block _ (size_of_block br)).trans br
        replace hown := own_below hown gb
        replace hbw := below_then hbw gb
        clear gb
        have xe := X5.out
        have zbf := size_of_block bf
        have zbp := size_of_block bp
        have k0 := Joins.cell_of_block bf 0
        have k1 := Joins.cell_of_block bf 1
        have k2 := Joins.cell_of_block bf 2
        have k3 := Joins.cell_of_block bf 3
        have k4 := Joins.cell_of_block bf 4
        have g0 := Joins.cell_of_block bp 0
        have g1 := Joins.cell_of_block bp 1
        have e0 := (hbw.cell (p := ⟨b, off + j * 2, none⟩) hb).trans c0
        have e1 := (hbw.cell (p := ⟨b, off + j * 2 + 1, none⟩) hb).trans c1
        have hzb : b < wA.heap.size := Nat.lt_of_lt_of_le hb hbw.size
        have hk := HK.out.later hbw
        go_wp2_with fail
        refine wp_region_grown (by kernel_rfl) (by kernel_rfl) fun hcg => ?_
        repeat (go_big_quiet_step ((go_at_call 82; exact Calls.grown (xe _ (hk.later (Gr.b _))))))
        refine wpQuiet_nil ?_
        intro _ hw'
        obtain ⟨g, hw''⟩ := hw'
        subst hw''
        have gb := g.b
        generalize g.val = wB at gb ⊢
        clear hcg g zbf zbp k0 k1 k2 k3 k4 g0 g1 e0 e1 hzb hk xe
        replace bf := (gb.block _ (size_of_block bf)).trans bf
        replace bp := (gb.block _ (size_of_block bp)).trans bp
        replace br := (gb.block _ (size_of_block br)).trans br
        replace hown := own_below hown gb
        replace hbw := below_then hbw gb
        clear gb
        by_cases hc1 : lo < h
        · have d1 : decide (h > lo) = true := decide_eq_true hc1
          have d1' : decide (lo < h) = true := decide_eq_true hc1
          have xf := X6.out
          have xp := X7.out
          clear hc1
          by_cases hc2 : min hi (lo + d) < need
          · have d2 : decide (min hi (lo + d) < need) = true := decide_eq_true hc2
            have HY : Hid (IN (j + 1) = IN j ++ [(j : Int)]) := by show _ = _; rw [HYY.out, d1', d2]; rfl
            clear hc2 d1'
            have zbf := size_of_block bf
            have zbp := size_of_block bp
            have k0 := Joins.cell_of_block bf 0
            have k1 := Joins.cell_of_block bf 1
            have k2 := Joins.cell_of_block bf 2
            have k3 := Joins.cell_of_block bf 3
            have k4 := Joins.cell_of_block bf 4
            have g0 := Joins.cell_of_block bp 0
            have g1 := Joins.cell_of_block bp 1
            have e0 := (hbw.cell (p := ⟨b, off + j * 2, none⟩) hb).trans c0
            have e1 := (hbw.cell (p := ⟨b, off + j * 2 + 1, none⟩) hb).trans c1
            have hzb : b < wB.heap.size := Nat.lt_of_lt_of_le hb hbw.size
            have hk := HK.out.later hbw
            go_wp2_with fail
            refine wp_region_grown (by kernel_rfl) (by kernel_rfl) fun hcg => ?_
            repeat (go_big_quiet_step (first | (go_at_call 82; exact Calls.grown (xp _ (hk.later (Gr.b _)))) | (go_at_call 59; exact Calls.grown (xf _))))
            refine wpQuiet_nil ?_
            intro _ hw'
            obtain ⟨g, hw''⟩ := hw'
            subst hw''
            have gb := g.b
            generalize g.val = wC at gb ⊢
            clear hcg g zbf zbp k0 k1 k2 k3 k4 g0 g1 e0 e1 hzb hk xf xp
            replace bf := (gb.block _ (size_of_block bf)).trans bf
            replace bp := (gb.block _ (size_of_block bp)).trans bp
            replace br := (gb.block _ (size_of_block br)).trans br
            replace hown := own_below hown gb
            replace hbw := below_then hbw gb
            clear gb
            obtain ⟨A9, cap9, rfl⟩ := own_form hown
            have bfA := fun o => ((below_alloc wC o).block _ (size_of_block bf)).trans bf
            have bpA := fun o => ((below_alloc wC o).block _ (size_of_block bp)).trans bp
            have brA := fun o => ((below_alloc wC o).block _ (size_of_block br)).trans br
            have n3 := hbw.size
            have hll := HLEN.out j
            go_wp2_with (at_builtin; refine wpList_append_own _ rfl _ _ 27 rfl w.heap.size 3 i0 (.int .i64 0) 1 8 Tryz.underlying27 HI.out HI0.out HI1.out HI2.out rfl (by decide) _ _ _ rfl (hown.alloc _) ⟨wC.heap.size, 0, none⟩ 1 1 [.int .i64 (j : Int)] rfl rfl (cell_one_new _ _ _) (one_oneCell rfl) ?c3 ?c4 ?c5 ?_)
            case c3 => unfold maxLen; omega
            case c4 => omega
            case c5 => simp; omega
            intro v' w1 hown' hgrow _
            have hB1 := below_append hbw (by omega) hown hgrow
            have bf' := (hgrow.block _ (size_of_block (bfA (.cells #[.int .i64 (j : Int)] 3))) (Ne.symm (own_ne_block (hown.alloc (.cells #[.int .i64 (j : Int)] 3)) (bfA (.cells #[.int .i64 (j : Int)] 3)) (by decide)))).trans (bfA (.cells #[.int .i64 (j : Int)] 3))
            have bp' := (hgrow.block _ (size_of_block (bpA (.cells #[.int .i64 (j : Int)] 3))) (Ne.symm (own_ne_block (hown.alloc (.cells #[.int .i64 (j : Int)] 3)) (bpA (.cells #[.int .i64 (j : Int)] 3)) (by decide)))).trans (bpA (.cells #[.int .i64 (j : Int)] 3))
            have br' := (hgrow.block _ (size_of_block (brA (.cells #[.int .i64 (j : Int)] 3))) (Ne.symm (own_ne_block (hown.alloc (.cells #[.int .i64 (j : Int)] 3)) (brA (.cells #[.int .i64 (j : Int)] 3)) (by decide)))).trans (brA (.cells #[.int .i64 (j : Int)] 3))
            clear hgrow hown hbw
            go_wp2_with fail
            go_roundw
            case rel => exact ⟨j + 1, by omega, by go_num, by rw [HY.out]; simpa using hown', bf', bp', br', hB1⟩
            case measure => simp [intOf]; omega
          · have d2 : decide (min hi (lo + d) < need) = false := decide_eq_false hc2
            have HY : Hid (IN (j + 1) = IN j) := by show _ = _; rw [HYY.out, d1', d2]; rfl
            clear hc2 d1'
            have zbf := size_of_block bf
            have zbp := size_of_block bp
            have k0 := Joins.cell_of_block bf 0
            have k1 := Joins.cell_of_block bf 1
            have k2 := Joins.cell_of_block bf 2
            have k3 := Joins.cell_of_block bf 3
            have k4 := Joins.cell_of_block bf 4
            have g0 := Joins.cell_of_block bp 0
            have g1 := Joins.cell_of_block bp 1
            have e0 := (hbw.cell (p := ⟨b, off + j * 2, none⟩) hb).trans c0
            have e1 := (hbw.cell (p := ⟨b, off + j * 2 + 1, none⟩) hb).trans c1
            have hzb : b < wB.heap.size := Nat.lt_of_lt_of_le hb hbw.size
            have hk := HK.out.later hbw
            go_wp2_with fail
            refine wp_region_grown (by kernel_rfl) (by kernel_rfl) fun hcg => ?_
            repeat (go_big_quiet_step (first | (go_at_call 82; exact Calls.grown (xp _ (hk.later (Gr.b _)))) | (go_at_call 59; exact Calls.grown (xf _))))
            refine wpQuiet_nil ?_
            intro _ hw'
            obtain ⟨g, hw''⟩ := hw'
            subst hw''
            have gb := g.b
            generalize g.val = wC at gb ⊢
            clear hcg g zbf zbp k0 k1 k2 k3 k4 g0 g1 e0 e1 hzb hk xf xp
            replace bf := (gb.block _ (size_of_block bf)).trans bf
            replace bp := (gb.block _ (size_of_block bp)).trans bp
            replace br := (gb.block _ (size_of_block br)).trans br
            replace hown := own_below hown gb
            replace hbw := below_then hbw gb
            clear gb
            go_wp2_with fail
            go_roundw
            case rel => exact ⟨j + 1, by omega, by go_num, by rw [HY.out]; exact hown, bf, bp, br, hbw⟩
            case measure => simp [intOf]; omega
        · have d1 : decide (h > lo) = false := decide_eq_false hc1
          have d1' : decide (lo < h) = false := decide_eq_false hc1
          have HY : Hid (IN (j + 1) = IN j) := by show _ = _; rw [HYY.out, d1']; rfl
          clear hc1 d1'
          have zbf := size_of_block bf
          have zbp := size_of_block bp
          have k0 := Joins.cell_of_block bf 0
          have k1 := Joins.cell_of_block bf 1
          have k2 := Joins.cell_of_block bf 2
          have k3 := Joins.cell_of_block bf 3
          have k4 := Joins.cell_of_block bf 4
          have g0 := Joins.cell_of_block bp 0
          have g1 := Joins.cell_of_block bp 1
          have e0 := (hbw.cell (p := ⟨b, off + j * 2, none⟩) hb).trans c0
          have e1 := (hbw.cell (p := ⟨b, off + j * 2 + 1, none⟩) hb).trans c1
          have hzb : b < wB.heap.size := Nat.lt_of_lt_of_le hb hbw.size
          have hk := HK.out.later hbw
          go_wp2_with fail
          refine wp_region_grown (by kernel_rfl) (by kernel_rfl) fun hcg => ?_
          repeat (go_big_quiet_step (fail))
          refine wpQuiet_nil ?_
          intro _ hw'
          obtain ⟨g, hw''⟩ := hw'
          subst hw''
          have gb := g.b
          generalize g.val = wC at gb ⊢
          clear hcg g zbf zbp k0 k1 k2 k3 k4 g0 g1 e0 e1 hzb hk
          replace bf := (gb.block _ (size_of_block bf)).trans bf
          replace bp := (gb.block _ (size_of_block bp)).trans bp
          replace br := (gb.block _ (size_of_block br)).trans br
          replace hown := own_below hown gb
          replace hbw := below_then hbw gb
          clear gb
          go_wp2_with fail
          go_roundw
          case rel => exact ⟨j + 1, by omega, by go_num, by rw [HY.out]; exact hown, bf, bp, br, hbw⟩
          case measure => simp [intOf]; omega
      · obtain rfl : j = l.length := by omega
        obtain ⟨A9, cap9, rfl⟩ := own_form hown
        have e0 := Joins.cell_of_block br 0
        have e1 := Joins.cell_of_block br 1
        have f0 := Joins.unfrozen_of_block br 0
        have f1 := Joins.unfrozen_of_block br 1
        have HP := Lib.hid (put2 (.slice A9 (IN l.length).length cap9) (.int .i64 0) br)
        have hne := own_ne_block hown br (by decide)
        have HO := Lib.hid (hown.kept (twice_set wr (w.heap.size + 1 + 1) (.slice A9 (IN l.length).length cap9) (.int .i64 0)) (.inr hne))
        clear hne
        go_wp2_with fail
        refine bodyPost_ret (v := .agg #[.slice A9 (IN l.length).length cap9, .int .i64 0]) ?_ rfl ⟨_, rfl, HO.out, below_set (below_set hbw (by omega)) (by omega)⟩
        simp [results, Tryz.results52, go_sem, HP.out.1, HP.out.2]
  · have hD : decideR f l p need = [] := by unfold decideR; rw [if_neg hE]
    rw [hD]
    have d1 : (decideE f l p need != 0) = true := by simpa using hE
    clear hD hE
    generalize decideE f l p need = E at x0 d1 ⊢
    have X0 := Lib.hid x0
    have HK1 := Lib.hid hk
    have H11 := Lib.hid h1
    clear x0 hk h1
    unfold sV at X0
    unfold fiV sV
    go_enter Tryz.func52, Tryz.ntmps52
    go_wp2_with fail
    generalize ((w.alloc _).alloc _).alloc _ = W2 at q0 q1 q2 qb HK1 H11 ⊢
    refine (X0.out W2 HK1.out H11.out).mono ?_
    rintro e W3 ⟨rfl, hF⟩
    have br := (hF.block _ (size_of_block q2)).trans q2
    have hB := below_then qb hF
    clear hF q0 q1 q2 qb
    have e0 := Joins.cell_of_block br 0
    have e1 := Joins.cell_of_block br 1
    have f0 := Joins.unfrozen_of_block br 0
    have f1 := Joins.unfrozen_of_block br 1
    have HP := Lib.hid (put2 (.slice none 0 0) (.int .i64 E) br)
    go_wp2_with fail
    refine bodyPost_ret (v := .agg #[.slice none 0 0, .int .i64 E]) ?_ rfl ⟨_, rfl, World.ownsRow_nil _ _ _ _, below_set (below_set hB (by omega)) (by omega)⟩
    simp [results, Tryz.results52, go_sem, HP.out.1, HP.out.2]
end Go.Proofs.YtjpoacffnpgjdaaGreat
