import Derived.Test.YtpgepfbdjefmdaaGreatJ25
import Derived.Test.YtpgepfbdjefmdaaGreatJ5
import Derived.Test.YtpgepfbdjefmdaaGreatZShaftHE
namespace Go.Proofs.YtpgepfbdjefmdaaGreat
open Go Go.RowKit Go.Shelf
attribute [local go_sem] Oper.semAt_some Rel RelAt RelUpon
theorem circle_none {l : List Tie} {p : List Int} {x : Int} (hx : p[0]? = some x) (h : ¬ (0 ≤ x ∧ x < l.length)) : circleI l p = 8 := by
  unfold circleI
  rw [hx]
  have : tieAt l x = none := by
    unfold tieAt
    split
    · exact List.getElem?_eq_none (by omega)
    · rfl
  simp only [this]
set_option maxRecDepth 100000 in
set_option maxHeartbeats 4000000 in
theorem CheckClash_c (k : Kl) (v u : Value) (p : List Int) (w : World) (hv : Kiln w v k) (hp : Ints w w.heap.size u p) :
    Calls Tryz.prog 27 #[v, u] w fun e w' => e = .returned (.int .i64 (clashI k p)) ∧ Below w.heap.size w w' := by
  obtain ⟨A1, c1, A2, c2, A3, c3, rfl⟩ := kilnForm hv
  obtain ⟨A, cap, rfl⟩ := Sl.form1 hp
  have q0 := heap_alloc_new w (.cells #[.int .i64 k.room, .int .i64 k.per, .slice A1 k.ls.length c1, .slice A2 k.ds.length c2, .slice A3 k.ws.length c3] 26)
  have qb := below_alloc w (.cells #[.int .i64 k.room, .int .i64 k.per, .slice A1 k.ls.length c1, .slice A2 k.ds.length c2, .slice A3 k.ws.length c3] 26)
  have hk := hv.later qb
  have HPW := Lib.hid hp
  have hnp : p.length ≤ 140737488355328 := by obtain ⟨_, _, _, _, h, _⟩ := hp; exact h
  clear hv hp
  by_cases h0 : checkI k = 0
  · have HR := Lib.hid (right_of_check h0)
    have H0 := Lib.hid h0
    have hlen := tiesL_len HR.out.small
    clear h0
    by_cases h200 : 200 < p.length
    · have HCL := Lib.hid (show clashI k p = 2 by rw [clashI, if_neg (by simp [H0.out]), if_pos h200])
      go_enter Tryz.func27, Tryz.ntmps27
      have y0 := Joins.cell_of_block q0 0
      have y1 := Joins.cell_of_block q0 1
      have y2 := Joins.cell_of_block q0 2
      have y3 := Joins.cell_of_block q0 3
      have y4 := Joins.cell_of_block q0 4
      go_wp2_with fail
      refine (check_c k _ _ hk).mono ?_
      rintro e W2 ⟨rfl, hF⟩
      rw [H0.out]
      replace qb := below_then qb hF
      clear hF y0 y1 y2 y3 y4
      go_wp2_with fail
      all_goals (try (exfalso; omega))
      go_ret
      exact ⟨ret_int HCL.out.symm, qb⟩
    · have HCL := Lib.hid (show clashI k p = circleI (tiesL k) p by rw [clashI, if_neg (by simp [H0.out]), if_neg h200])
      go_enter Tryz.func27, Tryz.ntmps27
      have y0 := Joins.cell_of_block q0 0
      have y1 := Joins.cell_of_block q0 1
      have y2 := Joins.cell_of_block q0 2
      have y3 := Joins.cell_of_block q0 3
      have y4 := Joins.cell_of_block q0 4
      go_wp2_with fail
      refine (check_c k _ _ hk).mono ?_
      rintro e W2 ⟨rfl, hF⟩
      rw [H0.out]
      replace q0 := (hF.block _ (size_of_block q0)).trans q0
      replace qb := below_then qb hF
      replace hk := hk.later hF
      clear hF y0 y1 y2 y3 y4
      have y0 := Joins.cell_of_block q0 0
      have y1 := Joins.cell_of_block q0 1
      have y2 := Joins.cell_of_block q0 2
      have y3 := Joins.cell_of_block q0 3
      have y4 := Joins.cell_of_block q0 4
      have zq := size_of_block q0
      go_wp2_with fail
      all_goals (try (exfalso; omega))
      refine (netOf_c k _ W2 hk HR.out).mono ?_
      rintro e W3 ⟨u, rfl, hT, hF⟩
      obtain ⟨B, cap2, rfl⟩ := Sl.form1 hT
      replace qb := below_then qb hF
      clear hF y0 y1 y2 y3 y4 zq hk q0
      have nb := below_alloc W3 (.cells #[.int .i64 (marksN k), .slice B (tiesL k).length cap2] 145)
      have r0 := heap_alloc_new W3 (.cells #[.int .i64 (marksN k), .slice B (tiesL k).length cap2] 145)
      replace qb := below_then qb nb
      replace hT := hT.later nb
      clear nb
      have hpz := HPW.out.later qb
      rcases Nat.eq_zero_or_pos p.length with hz | hz
      · have HCC := Lib.hid (show clashI k p = 8 by rw [HCL.out, List.eq_nil_of_length_eq_zero hz]; rfl)
        have d1 : ((p.length : Int) == 0) = true := by simp [hz]
        go_wp2_with fail
        generalize W3.alloc _ = W4 at r0 qb hT hpz ⊢
        have x0 := Joins.cell_of_block r0 0
        have x1 := Joins.cell_of_block r0 1
        have zr := size_of_block r0
        refine wp_region_grown (by kernel_rfl) (by kernel_rfl) fun hcg => ?_
        repeat (go_big_quiet_step (fail))
        refine wpQuiet_nil ?_
        intro _ hw'
        obtain ⟨g, hw''⟩ := hw'
        subst hw''
        go_wp2_with fail
        go_ret
        exact ⟨ret_int HCC.out.symm, below_then qb g.b⟩
      · have d1 : ((p.length : Int) == 0) = false := by rw [beq_eq_false_iff_ne]; omega
        go_wp2_with fail
        generalize W3.alloc _ = W4 at r0 qb hT hpz ⊢
        obtain ⟨_, _, e', _, _, hat⟩ := Ints.open_ hpz
        cases e'
        obtain ⟨b, off, x, rfl, hbb, hx0, cx⟩ := hat 0 hz
        simp only [Nat.add_zero] at cx
        have HX := Lib.hid hx0
        have HPZ := Lib.hid hpz
        have HT := Lib.hid hT
        clear hx0 hat hpz hT
        by_cases hin : 0 ≤ x ∧ x < (tiesL k).length
        · obtain ⟨q, rfl⟩ : ∃ q : Nat, x = q := ⟨x.toNat, by omega⟩
          have hq : q < (tiesL k).length := by omega
          have d2 : decide ((q : Int) < 0) = false := by simp
          have d3 : decide (((tiesL k).length : Int) ≤ q) = false := by simp; omega
          have x0 := Joins.cell_of_block r0 0
          have x1 := Joins.cell_of_block r0 1
          have zr := size_of_block r0
          refine wp_region_grown (by kernel_rfl) (by kernel_rfl) fun hcg => ?_
          repeat (go_big_quiet_step (fail))
          refine wpQuiet_nil ?_
          intro _ hw'
          obtain ⟨g, hw''⟩ := hw'
          subst hw''
          clear x0 x1 zr hcg
          replace r0 := (g.b.block _ (size_of_block r0)).trans r0
          replace qb := below_then qb g.b
          have hT := HT.out.later g.b
          have hpz := HPZ.out.later g.b
          replace cx := (g.b.cell (p := ⟨b, off, none⟩) hbb).trans cx
          have hbb2 : b < g.val.heap.size := Nat.lt_of_lt_of_le hbb g.b.size
          clear HT HPZ
          generalize g.val = W5 at r0 qb hT hpz cx hbb2 ⊢
          obtain ⟨_, _, e2, _, _, hat2⟩ := TiesAt.open_ hT
          cases e2
          obtain ⟨b2, off2, t, rfl, hb2, ht0, c0, _, _, _⟩ := hat2 q hq
          have HTT := Lib.hid ht0
          have HT := Lib.hid hT
          have HPZ := Lib.hid hpz
          clear ht0 hat2 hT hpz
          go_wp2_with fail
          have x0 := Joins.cell_of_block r0 0
          have x1 := Joins.cell_of_block r0 1
          have zr := size_of_block r0
          refine wp_region_grown (by kernel_rfl) (by kernel_rfl) fun hcg => ?_
          repeat (go_big_quiet_step (fail))
          refine wpQuiet_nil ?_
          intro _ hw'
          obtain ⟨g2, hw''⟩ := hw'
          subst hw''
          clear x0 x1 zr hcg
          replace r0 := (g2.b.block _ (size_of_block r0)).trans r0
          replace qb := below_then qb g2.b
          have hT := HT.out.later g2.b
          have hpz := HPZ.out.later g2.b
          have hlw := walk_c (marksN k) _ _ (tiesL k) p t.frm g2.val hT hpz HR.out.small.ties (by omega) (by omega)
          have HW := Lib.hid hlw
          clear HT HPZ hT hpz hlw cx c0
          generalize g2.val = W6 at r0 qb HW ⊢
          have x0 := Joins.cell_of_block r0 0
          have x1 := Joins.cell_of_block r0 1
          have zr := size_of_block r0
          go_wp2_with fail
          refine HW.out.mono ?_
          rintro e W7 ⟨rfl, hF⟩
          replace qb := below_then qb hF
          have hci : circleI (tiesL k) p = match walkI (tiesL k) p t.frm 0 with | some (a, s) => if a = t.frm ∧ s < 0 then 0 else 8 | none => 8 := by
            unfold circleI
            rw [HX.out]
            simp only [tieAt_nat, HTT.out]
            rcases walkI (tiesL k) p t.frm 0 with _ | ⟨a, s⟩ <;> rfl
          unfold walkR
          clear hF HW x0 x1 zr r0
          rcases hwi : walkI (tiesL k) p t.frm 0 with _ | ⟨a, sm⟩
          · rw [hwi] at hci
            have HCC := Lib.hid (HCL.out.trans hci)
            clear hci hwi
            go_wp2_with fail
            go_ret
            exact ⟨ret_int HCC.out.symm, qb⟩
          · rw [hwi] at hci
            dsimp only at hci
            by_cases ha : a = t.frm
            · subst ha
              have d4 : (t.frm != t.frm) = false := by simp
              by_cases hs : sm < 0
              · rw [if_pos ⟨rfl, hs⟩] at hci
                have HCC := Lib.hid (HCL.out.trans hci)
                clear hci hwi
                go_wp2_with fail
                all_goals (try (exfalso; omega))
                go_ret
                exact ⟨ret_int HCC.out.symm, qb⟩
              · rw [if_neg (fun h => hs h.2)] at hci
                have HCC := Lib.hid (HCL.out.trans hci)
                clear hci hwi
                go_wp2_with fail
                all_goals (try (exfalso; omega))
                go_ret
                exact ⟨ret_int HCC.out.symm, qb⟩
            · rw [if_neg (fun h => ha h.1)] at hci
              have HCC := Lib.hid (HCL.out.trans hci)
              have d4 : (a != t.frm) = true := by simpa using ha
              clear hci hwi
              go_wp2_with fail
              go_ret
              exact ⟨ret_int HCC.out.symm, qb⟩
        · have HCC := Lib.hid (show clashI k p = 8 by rw [HCL.out]; exact circle_none HX.out hin)
          by_cases hneg : x < 0
          · have d2 : decide (x < 0) = true := by simpa using hneg
            have x0 := Joins.cell_of_block r0 0
            have x1 := Joins.cell_of_block r0 1
            have zr := size_of_block r0
            refine wp_region_grown (by kernel_rfl) (by kernel_rfl) fun hcg => ?_
            repeat (go_big_quiet_step (fail))
            refine wpQuiet_nil ?_
            intro _ hw'
            obtain ⟨g, hw''⟩ := hw'
            subst hw''
            go_wp2_with fail
            go_ret
            exact ⟨ret_int HCC.out.symm, below_then qb g.b⟩
          · have d2 : decide (x < 0) = false := by simpa using hneg
            have d3 : decide (((tiesL k).length : Int) ≤ x) = true := by simp; omega
            have x0 := Joins.cell_of_block r0 0
            have x1 := Joins.cell_of_block r0 1
            have zr := size_of_block r0
            refine wp_region_grown (by kernel_rfl) (by kernel_rfl) fun hcg => ?_
            repeat (go_big_quiet_step (fail))
            refine wpQuiet_nil ?_
            intro _ hw'
            obtain ⟨g, hw''⟩ := hw'
            subst hw''
            go_wp2_with fail
            go_ret
            exact ⟨ret_int HCC.out.symm, below_then qb g.b⟩
  · have d0 : (checkI k != 0) = true := by simpa using h0
    have HCL := Lib.hid (show clashI k p = checkI k by rw [clashI, if_pos h0])
    clear h0
    go_enter Tryz.func27, Tryz.ntmps27
    have y0 := Joins.cell_of_block q0 0
    have y1 := Joins.cell_of_block q0 1
    have y2 := Joins.cell_of_block q0 2
    have y3 := Joins.cell_of_block q0 3
    have y4 := Joins.cell_of_block q0 4
    go_wp2_with fail
    refine (check_c k _ _ hk).mono ?_
    rintro e W2 ⟨rfl, hF⟩
    replace qb := below_then qb hF
    clear hF y0 y1 y2 y3 y4
    go_wp2_with fail
    go_ret
    exact ⟨ret_int HCL.out.symm, qb⟩
end Go.Proofs.YtpgepfbdjefmdaaGreat
