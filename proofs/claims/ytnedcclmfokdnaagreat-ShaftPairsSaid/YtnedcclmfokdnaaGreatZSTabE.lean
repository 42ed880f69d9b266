import Derived.Test.YtnedcclmfokdnaaGreatJ3
import Derived.Test.YtnedcclmfokdnaaGreatJ2
import Derived.Test.YtnedcclmfokdnaaGreatJ11
import Derived.Lib.SmallJoins
import Derived.Lib.MinMax
import Derived.StillTailTactics
import Derived.Test.YtnedcclmfokdnaaGreatJ18
import Derived.Test.YtnedcclmfokdnaaGreatZNetE
namespace Go.Proofs.YtnedcclmfokdnaaGreat
open Go Go.RowKit
theorem Tryz.infoRowT : (Tryz.prog.info? 27).map (fun i => (i.zero, i.size, i.bytes)) = some (some (.slice none 0 0), 1, 24) := by kernel_rfl
theorem rowD_first {N i : Nat} (h : i < N) : (List.replicate N (Value.int .i64 1099511627776)).set i (.int .i64 0) = rowD tab0 N i := by
  apply List.ext_getElem?
  intro j
  rw [List.getElem?_set]
  by_cases e : i = j
  · subst e
    rw [if_pos rfl, if_pos (by simpa using h), rowD_at h]
    unfold tab0; rw [if_pos rfl]
  · rw [if_neg e]
    by_cases hj : j < N
    · rw [rowD_at hj, List.getElem?_replicate, if_pos hj]
      unfold tab0; rw [if_neg (by omega)]; rfl
    · rw [List.getElem?_eq_none (by simpa using hj), List.getElem?_eq_none (by rw [rowD_len]; omega)]
set_option maxRecDepth 100000 in
set_option maxHeartbeats 8000000 in
theorem table_r (l : List Tie) (u : Value) (N : Nat) (w : World) (hu : TiesAt w w.heap.size u l) (ok : NetOk l N) :
    Calls Tryz.prog 93 #[.int .i64 N, u] w fun e w' => ∃ v bs cp D b, e = .returned (.tuple #[v, .bool b]) ∧ TabD w.heap.size w' v N N bs cp D ∧ TabOk l N D ∧ (b = true ↔ ∀ i : Int, 0 ≤ i → i < N → 0 ≤ D i i) ∧ Below w.heap.size w w' := by
  obtain ⟨A, cap, rfl, _, hn, hat⟩ := hu.open_
  have HT := Lib.hid hat
  have OK := Lib.hid ok
  have hN0 : 0 < N := by have := ok.pos; omega
  have hN1 : N ≤ 41 := by have := ok.le; omega
  clear hat hu ok
  obtain ⟨i0, hi, hz0, hz1, hz2⟩ := info_parts Tryz.infoIntT
  obtain ⟨i1, hj, hy0, hy1, hy2⟩ := info_parts Tryz.infoRowT
  have HI := Lib.hid hi
  have HI0 := Lib.hid hz0
  have HI1 := Lib.hid hz1
  have HI2 := Lib.hid hz2
  have HJ := Lib.hid hj
  have HJ0 := Lib.hid hy0
  have HJ1 := Lib.hid hy1
  have HJ2 := Lib.hid hy2
  clear hi hz0 hz1 hz2 hj hy0 hy1 hy2
  go_enter Tryz.func93, Tryz.ntmps93
  go_wp2
  go_loopw [6, 7] (fun v i wr => ∃ (m : Nat) (bs cp : Nat → Nat), m ≤ N ∧ i = .int .i64 m ∧ TabD w.heap.size wr v N m bs cp tab0 ∧ Below w.heap.size w wr) (fun _ i _ => N - (intOf i).toNat)
  case atStart => exact ⟨0, fun _ => 0, fun _ => 0, by omega, rfl, ⟨World.ownsRow_nil _ _ _ _, fun j hj => by omega, fun j _ hj => by omega⟩, Below.refl _ _⟩
  case round =>
    obtain ⟨m, bs, cp, hm, rfl, hT, hbw⟩ := hrel
    by_cases hlt : m < N
    · obtain ⟨wo, rfl⟩ : ∃ wo : World, wo = wr := ⟨_, rfl⟩
      have hd1 : decide ((m : Int) < N) = true := decide_eq_true (by omega)
      have hs0 := hbw.size
      go_wp2
      go_loopw [8, 9] (fun v i wr => ∃ p : Nat, p ≤ N ∧ i = .int .i64 p ∧ wr.ownsRow wo.heap.size 3 1 v p (List.replicate p (.int .i64 1099511627776)) ∧ Below wo.heap.size wo wr) (fun _ i _ => N - (intOf i).toNat)
      case atStart => exact ⟨0, by omega, rfl, World.ownsRow_nil _ _ _ _, Below.refl _ _⟩
      case round =>
        obtain ⟨p, hp, rfl, hO, hb⟩ := hrel
        have hbs := hb.size
        by_cases h1 : p < N
        · have hd2 : decide ((p : Int) < N) = true := decide_eq_true (by omega)
          go_wp2_with (at_builtin; refine wpList_append_own _ rfl _ _ 27 rfl wo.heap.size 3 i0 (.int .i64 0) 1 8 Tryz.underlying27 HI.out HI0.out HI1.out HI2.out rfl (by decide) _ _ _ rfl (hO.alloc _) ⟨wr.heap.size, 0, none⟩ 1 1 [.int .i64 1099511627776] rfl rfl (cell_one_new _ _ _) (one_oneCell rfl) ?c3 ?c4 ?c5 ?_)
          case c3 => unfold maxLen; omega
          case c4 => omega
          case c5 => simp; omega
          intro v' w2 hown' hgrow _
          have hB2 := below_append hb (by omega) hO hgrow
          clear hgrow hO hb
          go_wp2
          go_roundw
          case rel => exact ⟨p + 1, by omega, by go_num, by rw [List.replicate_succ']; exact hown', hB2⟩
          case measure => simp [intOf]; omega
        · obtain rfl : p = N := by omega
          have hd2 : decide ((p : Int) < p) = false := decide_eq_false (by omega)
          obtain ⟨r, c, rfl⟩ := Joins.ownsRow_form hO (by omega)
          have hfr := hO.frozenAt m
          have hrl := hO.lt r rfl
          have hcr : wr.cell? ⟨r, m, none⟩ = some (.int .i64 1099511627776) := (hO.cellAt m (by omega)).trans (by rw [List.getElem?_replicate, if_pos hlt])
          have hst := hO.stored m (.int .i64 0)
          rw [rowD_first hlt] at hst
          have hB2 := below_set (v := .int .i64 0) (i := m) hb hrl.1
          obtain ⟨W2, hW2⟩ : ∃ W2, W2 = wr.setCell ⟨r, m, none⟩ (.int .i64 0) := ⟨_, rfl⟩
          rw [← hW2] at hB2 hst
          have HW2 := Lib.hid hW2
          have hsz2 := hB2.size
          have hTq := hT.later hB2
          have HB2 := Lib.hid hB2
          have HST := Lib.hid hst
          have hbl := fun j (hj : j < m) => (hT.lt hj).2
          have HBL := Lib.hid hbl
          clear hB2 hst hbl hT hW2
          go_wp2_with (first | (rw [← HW2.out]) | (at_builtin; refine wpList_append_own _ rfl _ _ 154 rfl w.heap.size 27 i1 (.slice none 0 0) 1 24 Tryz.underlying154 HJ.out HJ0.out HJ1.out HJ2.out rfl (by decide) _ _ _ rfl (hTq.own.alloc _) ⟨W2.heap.size, 0, none⟩ 1 1 [.slice (some ⟨r, 0, none⟩) p c] rfl rfl (cell_one_new _ _ _) (one_oneCell rfl) ?c3 ?c4 ?c5 ?_))
          case c3 => unfold maxLen; omega
          case c4 => omega
          case c5 => simp at hsz2 ⊢; omega
          intro v' w2 hown' hgrow _
          have hTn := (hTq.later (below_alloc _ _)).push hs0 HBL.out (HST.out.1.alloc _) hown' hgrow
          have hBn : Below w.heap.size w w2 := ((hbw.trans (HB2.out.mono hs0)).alloc (by omega) _).grown hgrow (by simp; omega) fun k hk => (hTq.own.lt k hk).1
          clear hgrow hown' hTq
          go_wp2
          go_roundw
          case rel => exact ⟨m + 1, _, _, by omega, by go_num, hTn, hBn⟩
          case measure => simp [intOf]; omega
    · obtain rfl : N = m := by omega
      have hd1 : decide ((N : Int) < N) = false := decide_eq_false (by omega)
      obtain ⟨g, cg, hv⟩ := Joins.ownsRow_form hT.own (by omega)
      subst hv
      go_wp2
      go_loopw [10] (fun i wr => ∃ (k : Nat) (D : Int → Int → Int), k ≤ l.length ∧ i = .int .i64 k ∧ TabD w.heap.size wr (.slice (some ⟨g, 0, none⟩) N cg) N N bs cp D ∧ TabI l (l.take k) D ∧ Below w.heap.size w wr) (fun i _ => l.length - (intOf i).toNat)
      case atStart => exact ⟨0, tab0, Nat.zero_le _, rfl, hT, by rw [List.take_zero]; exact tabI_start l, hbw⟩
      case round =>
        clear hT hbw
        obtain ⟨k, D, hk, rfl, hT, hI, hbw⟩ := hrel
        by_cases hlt2 : k < l.length
        · obtain ⟨b, off, x, rfl, hb, hx0, c0, c1, c2, _⟩ := HT.out k hlt2
          have hrg := OK.out.rng x (List.mem_of_getElem? hx0)
          obtain ⟨a, ha⟩ : ∃ a : Nat, x.frm = a := ⟨x.frm.toNat, by omega⟩
          obtain ⟨c, hc⟩ : ∃ c : Nat, x.too = c := ⟨x.too.toNat, by omega⟩
          have HST : Hid (TabI l (l.take (k + 1)) (updT D a c (min (D a c) x.most))) := by
            have := tabI_step OK.out (List.mem_of_getElem? hx0) hI
            unfold tieT at this
            rw [ha, hc] at this
            show TabI _ _ _
            rw [take_snoc hx0]; exact this
          have d0 := (hbw.cell (p := ⟨b, off + k * 4, none⟩) hb).trans c0
          have d1 := (hbw.cell (p := ⟨b, off + k * 4 + 1, none⟩) hb).trans c1
          have d2 := (hbw.cell (p := ⟨b, off + k * 4 + 2, none⟩) hb).trans c2
          rw [ha] at d0
          rw [hc] at d1
          have ha2 : a < N := by omega
          have hc2 : c < N := by omega
          have cA := hT.at_ ha2
          have cB := hT.cell ha2 hc2
          have fB := hT.frozen ha2 c
          have zb : b < wr.heap.size := Nat.lt_of_lt_of_le hb hbw.size
          have zg := (hT.own.lt g rfl).2
          have za := (hT.lt ha2).2
          have zw := (hT.lt ha2).1
          have HTT := Lib.hid hT
          clear hx0 c0 c1 c2 hI hrg hT ha hc
          generalize x.most = xm at d2 HST
          go_wp2_with fail
          refine wp_region_grown_tail 35 (by kernel_rfl) (by kernel_rfl) fun hcg => ?_
          simp only [List.take_succ_cons, List.take_zero, List.drop_succ_cons, List.drop_zero]
          repeat (go_big_quiet_step (fail))
          refine wpQuiet_nil ?_
          intro _ hw'
          obtain ⟨gr, hw''⟩ := hw'
          subst hw''
          have gb := gr.b
          generalize gr.val = wM at gb ⊢
          have fB3 := (gb.frozen (p := ⟨bs a, c, none⟩) za).trans fB
          have cB3 := (gb.cell (p := ⟨bs a, c, none⟩) za).trans cB
          have hT3 := HTT.out.later gb
          have hb3 := below_then hbw gb
          clear gb hcg gr d0 d1 d2 cA cB fB zb zg hbw
          go_wp2_with fail
          go_roundw
          case rel => exact ⟨k + 1, _, by omega, by go_num, hT3.store ha2 hc2 _, HST.out, below_set hb3 zw⟩
          case measure => simp [intOf]; omega
        · obtain rfl : k = l.length := by omega
          rw [List.take_length] at hI
          have hM := tabI_end OK.out hI
          clear hI
          go_wp2_with fail
          go_loopw [11] (fun i wr => ∃ (s : Nat) (D : Int → Int → Int), s ≤ N ∧ i = .int .i64 s ∧ TabD w.heap.size wr (.slice (some ⟨g, 0, none⟩) N cg) N N bs cp D ∧ TabAt l N s 0 0 D ∧ Below w.heap.size w wr) (fun i _ => N - (intOf i).toNat)
          case atStart => exact ⟨0, D, Nat.zero_le _, rfl, hT, by simpa using hM, hbw⟩
          case round =>
            clear hT hbw hM D
            obtain ⟨s, D, hs, rfl, hT, hM, hbw⟩ := hrel
            by_cases hls : s < N
            · have e1 : decide ((s : Int) < N) = true := decide_eq_true (by omega)
              obtain ⟨wo, rfl⟩ : ∃ wo : World, wo = wr := ⟨_, rfl⟩
              go_wp2_with fail
              go_loopw [12] (fun i wr => ∃ (p : Nat) (D : Int → Int → Int), p ≤ N ∧ i = .int .i64 p ∧ TabD w.heap.size wr (.slice (some ⟨g, 0, none⟩) N cg) N N bs cp D ∧ TabAt l N s p 0 D ∧ Below w.heap.size w wr) (fun i _ => N - (intOf i).toNat)
              case atStart => exact ⟨0, D, Nat.zero_le _, rfl, hT, by simpa using hM, hbw⟩
              case round =>
                clear hT hbw hM D
                obtain ⟨p, D, hp, rfl, hT, hM, hbw⟩ := hrel
                by_cases hlp : p < N
                · have e2 : decide ((p : Int) < N) = true := decide_eq_true (by omega)
                  obtain ⟨wo2, rfl⟩ : ∃ wo2 : World, wo2 = wr := ⟨_, rfl⟩
                  go_wp2_with fail
                  go_loopw [13] (fun i wr => ∃ (q : Nat) (D : Int → Int → Int), q ≤ N ∧ i = .int .i64 q ∧ TabD w.heap.size wr (.slice (some ⟨g, 0, none⟩) N cg) N N bs cp D ∧ TabAt l N s p q D ∧ Below w.heap.size w wr) (fun i _ => N - (intOf i).toNat)
                  case atStart => exact ⟨0, D, Nat.zero_le _, rfl, hT, by simpa using hM, hbw⟩
                  case round =>
                    clear hT hbw hM D
                    obtain ⟨q, D, hq, rfl, hT, hM, hbw⟩ := hrel
                    by_cases hlq : q < N
                    · have e3 : decide ((q : Int) < N) = true := decide_eq_true (by omega)
                      have cP := hT.at_ hlp
                      have cS := hT.at_ hls
                      have cps := hT.cell hlp hls
                      have csq := hT.cell hls hlq
                      have cpq := hT.cell hlp hlq
                      have fB := hT.frozen hlp q
                      have zg := (hT.own.lt g rfl).2
                      have zp := (hT.lt hlp).2
                      have zs := (hT.lt hls).2
                      have zw := (hT.lt hlp).1
                      have r1 := hM.rng p s
                      have r2 := hM.rng s q
                      have r3 := hM.rng p q
                      have HN : Hid (TabAt l N s p ((q : Int) + 1) (relaxT D s p q)) := tabAt_step OK.out hM (by omega) (by omega) (by omega)
                      have HTT := Lib.hid hT
                      unfold farN at r1 r2 r3
                      clear hT hM
                      by_cases f1 : D p s < 1099511627776
                      · have d1 : decide (D p s < 1099511627776) = true := decide_eq_true f1
                        by_cases f2 : D s q < 1099511627776
                        · have d2 : decide (D s q < 1099511627776) = true := decide_eq_true f2
                          have hEQ : relaxT D s p q = updT D p q (max (-1099511627776) (min (D p q) (D p s + D s q))) := by
                            unfold relaxT farN; rw [if_pos ⟨f1, f2⟩]; rfl
                          rw [hEQ] at HN
                          clear hEQ
                          have HST := Lib.hid (fun (W : World) (h : Below wr.heap.size wr W) => (HTT.out.later h).store hlp hlq (max (-1099511627776) (min (D p q) (D p s + D s q))))
                          generalize D p s = x1 at *
                          generalize D s q = x2 at *
                          generalize hx3 : D p q = x3 at *
                          go_wp2_with fail
                          refine wp_region_grown_tail 30 (by kernel_rfl) (by kernel_rfl) fun hcg => ?_
                          simp only [List.take_succ_cons, List.take_zero, List.drop_succ_cons, List.drop_zero]
                          repeat (go_big_quiet_step (fail))
                          refine wpQuiet_nil ?_
                          intro _ hw'
                          obtain ⟨gr, hw''⟩ := hw'
                          subst hw''
                          have gb := gr.b
                          generalize gr.val = wM at gb ⊢
                          have fB3 := (gb.frozen (p := ⟨bs p, q, none⟩) zp).trans fB
                          have cB3 := (gb.cell (p := ⟨bs p, q, none⟩) zp).trans cpq
                          have hT3 := HST.out wM gb
                          have hb3 := below_then hbw gb
                          clear gb hcg gr cP cS cps csq cpq fB zg zp zs hbw
                          go_wp2_with fail
                          go_roundw
                          case rel => exact ⟨q + 1, _, by omega, by go_num, hT3, by simpa using HN.out, below_set hb3 zw⟩
                          case measure => simp [intOf]; omega
                        · have d2 : decide (D s q < 1099511627776) = false := decide_eq_false f2
                          have hEQ : relaxT D s p q = D := by unfold relaxT farN; rw [if_neg (by omega)]
                          rw [hEQ] at HN
                          go_wp2_with fail
                          go_roundw
                          case rel => exact ⟨q + 1, _, by omega, by go_num, HTT.out, by simpa using HN.out, hbw⟩
                          case measure => simp [intOf]; omega
                      · have d1 : decide (D p s < 1099511627776) = false := decide_eq_false f1
                        have hEQ : relaxT D s p q = D := by unfold relaxT farN; rw [if_neg (by omega)]
                        rw [hEQ] at HN
                        go_wp2_with fail
                        go_roundw
                        case rel => exact ⟨q + 1, _, by omega, by go_num, HTT.out, by simpa using HN.out, hbw⟩
                        case measure => simp [intOf]; omega
                    · obtain rfl : q = N := by omega
                      have e3 : decide ((q : Int) < q) = false := decide_eq_false (by omega)
                      have HN := Lib.hid (tabAt_row hM)
                      clear hM
                      go_wp2_with fail
                      go_roundw
                      case rel => exact ⟨p + 1, _, by omega, by go_num, hT, by simpa using HN.out, hbw⟩
                      case measure => simp [intOf]; omega
                · obtain rfl : p = N := by omega
                  have e2 : decide ((p : Int) < p) = false := decide_eq_false (by omega)
                  have HN := Lib.hid (tabAt_next hM)
                  clear hM
                  go_wp2_with fail
                  go_roundw
                  case rel => exact ⟨s + 1, _, by omega, by go_num, hT, by simpa using HN.out, hbw⟩
                  case measure => simp [intOf]; omega
            · obtain rfl : s = N := by omega
              have e1 : decide ((s : Int) < s) = false := decide_eq_false (by omega)
              have HOK := Lib.hid (tabAt_end OK.out hM)
              clear hM
              go_wp2_with fail
              go_loopw [14] (fun i wr => ∃ q : Nat, q ≤ s ∧ i = .int .i64 q ∧ TabD w.heap.size wr (.slice (some ⟨g, 0, none⟩) s cg) s s bs cp D ∧ Hid (∀ x : Int, 0 ≤ x → x < q → 0 ≤ D x x) ∧ Below w.heap.size w wr) (fun i _ => s - (intOf i).toNat)
              case atStart => exact ⟨0, Nat.zero_le _, rfl, hT, fun x h0 h1 => by omega, hbw⟩
              case round =>
                clear hT hbw
                obtain ⟨q, hq, rfl, hT, hD, hbw⟩ := hrel
                by_cases hlq : q < s
                · have e3 : decide ((q : Int) < s) = true := decide_eq_true (by omega)
                  have cP := hT.at_ hlq
                  have cq := hT.cell hlq hlq
                  by_cases f1 : D q q < 0
                  · have d1 : decide (D q q < 0) = true := decide_eq_true f1
                    go_wp2_with fail
                    refine bodyPost_ret (v := .tuple #[.slice (some ⟨g, 0, none⟩) s cg, .bool false]) ?_ rfl ⟨_, bs, cp, D, false, rfl, hT, HOK.out, ⟨fun h => (by cases h), fun h => absurd (h q (by omega) (by omega)) (by omega)⟩, hbw⟩
                    simp [results, Tryz.results93, go_sem]
                  · have d1 : decide (D q q < 0) = false := decide_eq_false f1
                    have hD2 : Hid (∀ x : Int, 0 ≤ x → x < ((q + 1 : Nat) : Int) → 0 ≤ D x x) := fun x h0 h1 => by
                      by_cases e : x = q
                      · subst e; omega
                      · exact hD.out x h0 (by omega)
                    go_wp2_with fail
                    go_roundw
                    case rel => exact ⟨q + 1, by omega, by go_num, hT, hD2, hbw⟩
                    case measure => simp [intOf]; omega
                · obtain rfl : q = s := by omega
                  have e3 : decide ((q : Int) < q) = false := decide_eq_false (by omega)
                  go_wp2_with fail
                  refine bodyPost_ret (v := .tuple #[.slice (some ⟨g, 0, none⟩) q cg, .bool true]) ?_ rfl ⟨_, bs, cp, D, true, rfl, hT, HOK.out, ⟨fun _ => hD.out, fun _ => rfl⟩, hbw⟩
                  simp [results, Tryz.results93, go_sem]
end Go.Proofs.YtnedcclmfokdnaaGreat
