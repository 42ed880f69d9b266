/- Texts joined: 3RefT 3Sam 3Three 3HeadA 3Head 3LawA 3LawB. -/
import Derived.Test.YtaaeipjnhjgjdaaJ11
import Derived.Test.YtaaeipjnhjgjdaaJ6
import Derived.Lib.MinMax
/- Batches together, by the reference. -/
namespace Go.Proofs.Ytaaeipjnhjgjdaa
open Go.RowKit

theorem own_map {α : Type} {f : α → Sp} {w : World} {base : Nat} {e : TypeId} {v : Value} {l : List α} (h : w.ownsRow base e 2 v l.length (l.flatMap fun b => spC (f b))) (hl : l.length ≤ 140737488355328) : Sps w w.heap.size v (l.map f) :=
  Sl.of_own (c := spC) spC_len (by rw [List.length_map, List.flatMap_map]; exact h) (by rw [List.length_map]; exact hl)
theorem own_form {w : World} {base : Nat} {e : TypeId} {s : Nat} {v : Value} {n : Nat} {xs : List Value} (h : w.ownsRow base e s v n xs) : ∃ A cap, v = .slice A n cap := by
  rcases h.2 with ⟨rfl, h0⟩ | ⟨g, cap, cur, rfl, _⟩
  · exact ⟨none, 0, by rw [h0]⟩
  · exact ⟨_, cap, rfl⟩
theorem own_ne {w : World} {base : Nat} {e : TypeId} {s : Nat} {v : Value} {n : Nat} {xs : List Value} (h : w.ownsRow base e s v n xs) : some w.heap.size ≠ v.ownBlock := fun e => by have := (h.lt _ e.symm).2; omega
theorem Try.infoSp : (Try.prog.info? 31).map (fun i => (i.zero, i.size, i.bytes)) = some (some (.agg #[.int .i64 0, .int .i64 0]), 2, 16) := by kernel_rfl
set_option maxHeartbeats 3200000 in
set_option maxRecDepth 100000 in
theorem Together3_c (l : List Bt) (s : Int) (p : Sp) (v : Value) (w : World) (hv : Bts w w.heap.size v l) :
    Calls Try.prog 66 #[v, .int .i64 s, spV p] w fun e w' => ∃ u, e = .returned (.agg #[u, .int .i64 (togetherE l s p)]) ∧ Sps w' w'.heap.size u (togetherL l s p) ∧ Below w.heap.size w w' := by
  obtain ⟨i0, hi, hz0, hz1, hz2⟩ := info_parts Try.infoSp
  have HI := Lib.hid hi
  have HI0 := Lib.hid hz0
  have HI1 := Lib.hid hz1
  have HI2 := Lib.hid hz2
  clear hi hz0 hz1 hz2
  obtain ⟨A, cap, rfl, hcap, hn, hat⟩ := hv.open_
  have H := Lib.hid hat
  clear hat hv
  have hy0 := box2 w (.cells #[.int .i64 p.lo, .int .i64 p.hi] 31) #[.slice none 0 0, .int .i64 0] 104
  have hp0 : ((w.alloc (.cells #[.int .i64 p.lo, .int .i64 p.hi] 31)).alloc (.cells #[.slice none 0 0, .int .i64 0] 104)).heap[w.heap.size]? = some (.cells #[.int .i64 p.lo, .int .i64 p.hi] 31) := by
    rw [Below.heap_alloc _ _ _ (by simp)]; exact heap_alloc_new w _
  have hB0 := below_then (below_alloc w (.cells #[.int .i64 p.lo, .int .i64 p.hi] 31)) (below_alloc _ (.cells #[.slice none 0 0, .int .i64 0] 104))
  obtain ⟨W, hW⟩ : ∃ W, W = (w.alloc (.cells #[.int .i64 p.lo, .int .i64 p.hi] 31)).alloc (.cells #[.slice none 0 0, .int .i64 0] 104) := ⟨_, rfl⟩
  have hWs : W.heap.size = w.heap.size + 1 + 1 := by rw [hW]; simp
  rw [← hW] at hy0 hp0 hB0
  unfold spV
  by_cases h12 : 12 < l.length
  · have hd : decide ((l.length : Int) > 12) = true := decide_eq_true (by omega)
    have hE : Hid (togetherE l s p = 2) := by show togetherE l s p = 2; unfold togetherE; rw [if_pos h12]
    clear hy0 hp0 hWs hB0 hW W
    go_enter Try.func66, Try.ntmps66
    go_wp2_with fail
    refine bodyPost_ret (v := .agg #[.slice none 0 0, .int .i64 2]) ?_ rfl ⟨_, by rw [hE.out], by rw [show togetherL l s p = [] by unfold togetherL; rw [hE.out]; rfl]; exact Sl.nil_, below_then (below_alloc _ _) (below_alloc _ _)⟩
    · simp [results, Try.results66, go_sem]
  · have hd : decide ((l.length : Int) > 12) = false := decide_eq_false (by omega)
    go_enter Try.func66, Try.ntmps66
    go_wp2_with fail
    rw [← hW]
    go_loopw [7] (fun i wr => ∃ j : Nat, j ≤ l.length ∧ i = .int .i64 j ∧ Hid ((l.take j).find? badB = none) ∧ Below (w.heap.size + 1 + 1) W wr) (fun i _ => l.length - (intOf i).toNat)
    case atStart => exact ⟨0, by omega, rfl, rfl, Below.refl _ _⟩
    case round =>
      obtain ⟨j, hj, rfl, hq, hb⟩ := hrel
      have hws := hb.size
      by_cases hlt : j < l.length
      · obtain ⟨b1, off, x, rfl, hb1, hx0, c⟩ := H.out j hlt
        have hk : ∀ o, wr.cell? ⟨b1, o, none⟩ = w.cell? ⟨b1, o, none⟩ := fun o => (hb.cell (p := ⟨b1, o, none⟩) (by simp only; omega)).trans (hB0.cell (p := ⟨b1, o, none⟩) hb1)
        simp only [← hk] at c
        obtain ⟨c0, c1, c2, c3, c4, c5, c6, c7, c8, c9⟩ := c
        have hz1 : b1 < wr.heap.size := by omega
        have hx := Lib.hid hx0
        clear hx0 hk
        go_wp2_with fail
        refine (Check3_c x _).mono ?_
        rintro e w1 ⟨rfl, hb2⟩
        have hB := hb.trans (hb2.mono (by omega))
        clear c0 c1 c2 c3 c4 c5 c6 c7 c8 c9
        by_cases hc : checkB x = 0
        · have hd2 : (checkB x != 0) = false := by simpa using hc
          have hno : Hid ((l.take (j + 1)).find? badB = none) := by
            show List.find? badB (l.take (j + 1)) = none
            rw [List.take_add_one, hx.out]; exact find_no hq.out (by simpa [badB] using hc)
          go_wp2_with fail
          go_roundw
          case rel => exact ⟨j + 1, by omega, by go_num, hno, hB⟩
          case measure => simp [intOf]; omega
        · have hd2 : (checkB x != 0) = true := by simpa using hc
          have hf : Hid (l.find? badB = some x) := by
            show List.find? badB l = some x
            refine find_first (l := l.take j) ?_ hq.out (by simpa [badB] using hc)
            have := List.take_prefix (j + 1) l
            rw [List.take_add_one, hx.out] at this; exact this
          have hE : Hid (togetherE l s p = checkB x) := by show togetherE l s p = checkB x; unfold togetherE; rw [if_neg h12, first_bad hf.out, if_pos hc]
          have hne : Hid (togetherL l s p = []) := by show togetherL l s p = []; unfold togetherL; rw [hE.out, if_neg hc]
          have hy := (hB.block (w.heap.size + 1) (by omega)).trans hy0
          have y0 := Joins.cell_of_block hy 0
          have y1 := Joins.cell_of_block hy 1
          have g0 := Joins.unfrozen_of_block hy 0
          have g1 := Joins.unfrozen_of_block hy 1
          have HP := Lib.hid (put2 (.slice none 0 0) (.int .i64 (checkB x)) hy)
          go_wp2_with fail
          refine bodyPost_ret (v := .agg #[.slice none 0 0, .int .i64 (checkB x)]) ?_ rfl ⟨_, by rw [hE.out], by rw [hne.out]; exact Sl.nil_, ((hB0.trans (hB.mono (by omega))).setCell (by simp) _).setCell (by simp) _⟩
          · simp [results, Try.results66, go_sem, HP.out.1, HP.out.2]
      · obtain rfl : j = l.length := by omega
        rw [List.take_length] at hq
        obtain ⟨hf0, hall⟩ := first_ok hq.out
        have hF0 := Lib.hid hf0
        have HALL := Lib.hid hall
        clear hf0 hall hq
        have hyb := (hb.block (w.heap.size + 1) (by omega)).trans hy0
        have hpb := (hb.block w.heap.size (by omega)).trans hp0
        have hBb := hB0.trans (hb.mono (by omega))
        rcases Bool.eq_false_or_eq_true (inI s 0 2) with hs | hs
        · have hs2 : 0 ≤ s ∧ s ≤ 2 := by simpa [inI] using hs
          have hS := Lib.hid hs
          clear hs
          obtain ⟨m, rfl⟩ := Int.eq_ofNat_of_zero_le hs2.1
          have hm : m < 3 := by omega
          clear hs2
          by_cases hpp : p.hi < p.lo
          · have hdp : decide (p.lo > p.hi) = true := decide_eq_true hpp
            have hE : Hid (togetherE l m p = 1) := by show togetherE l m p = 1; unfold togetherE; rw [if_neg h12, if_neg (by rw [hF0.out]; simp), if_pos (Or.inr hpp)]
            go_wp2_with fail
            refine (in3_b _ hS.out).mono ?_
            rintro e w1 ⟨rfl, hb1⟩
            have e0 := Joins.cell_of_block ((hb1.block w.heap.size (by omega)).trans hpb) 0
            have e1 := Joins.cell_of_block ((hb1.block w.heap.size (by omega)).trans hpb) 1
            have hw1s := hb1.size
            have hz1 : w.heap.size < w1.heap.size := by omega
            have hy := (hb1.block (w.heap.size + 1) (by omega)).trans hyb
            have hB := below_then hBb hb1
            have hne : Hid (togetherL l m p = []) := by show togetherL l m p = []; unfold togetherL; rw [hE.out]; rfl
            have y0 := Joins.cell_of_block hy 0
            have y1 := Joins.cell_of_block hy 1
            have g0 := Joins.unfrozen_of_block hy 0
            have g1 := Joins.unfrozen_of_block hy 1
            have HP := Lib.hid (put2 (.slice none 0 0) (.int .i64 1) hy)
            go_wp2_with fail
            refine bodyPost_ret (v := .agg #[.slice none 0 0, .int .i64 1]) ?_ rfl ⟨_, by rw [hE.out], by rw [hne.out]; exact Sl.nil_, (hB.setCell (by simp) _).setCell (by simp) _⟩
            · simp [results, Try.results66, go_sem, HP.out.1, HP.out.2]
          · have hdp : decide (p.lo > p.hi) = false := decide_eq_false (by omega)
            go_wp2_with fail
            refine (in3_b _ hS.out).mono ?_
            rintro e w1 ⟨rfl, hb1⟩
            have hpb1 := (hb1.block w.heap.size (by omega)).trans hpb
            have e0 := Joins.cell_of_block hpb1 0
            have e1 := Joins.cell_of_block hpb1 1
            have hw1s := hb1.size
            have hz1 : w.heap.size < w1.heap.size := by omega
            have hB1 : Below (w.heap.size + 1 + 1) W w1 := hb.trans (hb1.mono (by omega))
            clear hb1 hpb hyb hBb
            go_wp2_with fail
            go_loopw [9, 10, 11, 12] (fun at_ lo hi i wr => ∃ j : Nat, j ≤ l.length ∧ i = .int .i64 j ∧ lo = .int .i64 (losP l m j) ∧ hi = .int .i64 (hisP l m j) ∧ wr.ownsRow (w.heap.size + 1 + 1) 31 2 at_ j ((l.take j).flatMap fun b => spC (endsI b m)) ∧ Below (w.heap.size + 1 + 1) W wr) (fun _ _ _ i _ => l.length - (intOf i).toNat)
            case atStart => exact ⟨0, by omega, rfl, rfl, rfl, World.ownsRow_nil _ _ _ _, hB1⟩
            case round =>
              clear e0 e1 hpb1 hB1
              obtain ⟨j, hj, rfl, rfl, rfl, hown, hb⟩ := hrel
              have hws := hb.size
              by_cases hlt : j < l.length
              · obtain ⟨b1, off, x, rfl, hb1, hx0, c⟩ := H.out j hlt
                have hk : ∀ o, wr.cell? ⟨b1, o, none⟩ = w.cell? ⟨b1, o, none⟩ := fun o => (hb.cell (p := ⟨b1, o, none⟩) (by simp only; omega)).trans (hB0.cell (p := ⟨b1, o, none⟩) hb1)
                simp only [← hk] at c
                obtain ⟨c0, c1, c2, c3, c4, c5, c6, c7, c8, c9⟩ := c
                have hz2 : b1 < wr.heap.size := by omega
                have hck := HALL.out x (List.mem_of_getElem? hx0)
                have hsb := sums_bound HALL.out m j (by omega)
                have heb := ends_bound hck m
                have hx := Lib.hid hx0
                clear hx0 hk
                have hlo := Lib.hid (losP_step (s := m) hx.out)
                have hhi := Lib.hid (hisP_step (s := m) hx.out)
                have htk : Hid ((l.take (j + 1)).flatMap (fun b => spC (endsI b m)) = (l.take j).flatMap (fun b => spC (endsI b m)) ++ spC (endsI x m)) := by
                  show (l.take (j + 1)).flatMap _ = _
                  rw [List.take_add_one, hx.out]; simp
                go_wp2_with fail
                refine (ends3_c x m _ hck hm).mono ?_
                rintro e w2 ⟨rfl, hb2⟩
                have hB2 := hb.trans (hb2.mono (by omega))
                have hown2 := own_later hown hb2
                have hs2 := hb2.size
                clear c0 c1 c2 c3 c4 c5 c6 c7 c8 c9 hown
                have hbm : Below w2.heap.size w2 ((w2.alloc (.cells #[.int .i64 (endsI x m).lo, .int .i64 (endsI x m).hi] 31)).alloc (.cells #[.int .i64 (endsI x m).lo, .int .i64 (endsI x m).hi] 31)) := below_then (below_alloc _ _) (below_alloc _ _)
                go_wp2_with (at_builtin; refine wpList_append_own _ rfl _ _ 99 rfl (w.heap.size + 1 + 1) 31 i0 (.agg #[.int .i64 0, .int .i64 0]) 2 16 Try.underlying99 HI.out HI0.out HI1.out HI2.out rfl (by decide) _ _ _ rfl ((hown2.alloc _).alloc _) ⟨w2.heap.size + 1, 0, none⟩ 1 1 [.int .i64 (endsI x m).lo, .int .i64 (endsI x m).hi] rfl rfl ?c1 ?c2 ?c3 ?c4 ?c5 ?_)
                case c1 => have := cells_new (w2.alloc (.cells #[.int .i64 (endsI x m).lo, .int .i64 (endsI x m).hi] 31)) [.int .i64 (endsI x m).lo, .int .i64 (endsI x m).hi] 31; simpa using this
                case c2 => intro u hu; simp at hu; rcases hu with rfl | rfl <;> rfl
                case c3 => unfold maxLen; omega
                case c4 => omega
                case c5 => simp; omega
                intro v' w3 hown' hgrow _
                have hne := own_ne hown2
                have hc0 : w3.cell? ⟨w2.heap.size, 0, none⟩ = some (.int .i64 (endsI x m).lo) := by
                  rw [hgrow.cell_far _ (by simp; omega) hne]; go_simp
                have hc1 : w3.cell? ⟨w2.heap.size, 1, none⟩ = some (.int .i64 (endsI x m).hi) := by
                  rw [hgrow.cell_far _ (by simp; omega) hne]; go_simp
                have hB3 : Below (w.heap.size + 1 + 1) W w3 := (hB2.trans (hbm.mono (by omega))).grown hgrow (by simp; omega) fun k hk => (hown2.lt k hk).1
                have hs3 := hgrow.size
                simp only [World.size_alloc] at hs3
                have hz3 : w2.heap.size < w3.heap.size := by omega
                clear hgrow hne
                go_wp2
                go_roundw
                case rel => exact ⟨j + 1, by omega, by go_num, by rw [hlo.out], by rw [hhi.out], by rw [htk.out]; exact hown', hB3⟩
                case measure => simp [intOf]; omega
              · obtain rfl : j = l.length := by omega
                rw [List.take_length] at hown
                obtain ⟨hsb0, hsb1, hsb2⟩ := sums_bound HALL.out m l.length (Nat.le_refl _)
                have hl12 : l.length ≤ 12 := by omega
                have hpw := (hb.block w.heap.size (by omega)).trans hp0
                have hyw := (hb.block (w.heap.size + 1) (by omega)).trans hy0
                have e0 := Joins.cell_of_block hpw 0
                have e1 := Joins.cell_of_block hpw 1
                have hz1 : w.heap.size < wr.heap.size := by omega
                have hBw := hB0.trans (hb.mono (by omega))
                by_cases k1 : hisP l m l.length < p.lo
                · have hd1 : decide (p.lo > hisP l m l.length) = true := decide_eq_true k1
                  have hE : Hid (togetherE l m p = 9) := by show togetherE l m p = 9; unfold togetherE; rw [if_neg h12, if_neg (by rw [hF0.out]; simp), if_neg (by rw [hS.out]; simp; omega), if_pos (Or.inl (show hisI l m < p.lo from k1))]
                  have hne : Hid (togetherL l m p = []) := by show togetherL l m p = []; unfold togetherL; rw [hE.out]; rfl
                  have y0 := Joins.cell_of_block hyw 0
                  have y1 := Joins.cell_of_block hyw 1
                  have g0 := Joins.unfrozen_of_block hyw 0
                  have g1 := Joins.unfrozen_of_block hyw 1
                  have HP := Lib.hid (put2 (.slice none 0 0) (.int .i64 9) hyw)
                  go_wp2_with fail
                  refine bodyPost_ret (v := .agg #[.slice none 0 0, .int .i64 9]) ?_ rfl ⟨_, by rw [hE.out], by rw [hne.out]; exact Sl.nil_, (hBw.setCell (by simp) _).setCell (by simp) _⟩
                  · simp [results, Try.results66, go_sem, HP.out.1, HP.out.2]
                · have hd1 : decide (p.lo > hisP l m l.length) = false := decide_eq_false (by omega)
                  by_cases k2 : p.hi < losP l m l.length
                  · have hd2 : decide (p.hi < losP l m l.length) = true := decide_eq_true k2
                    have hE : Hid (togetherE l m p = 9) := by show togetherE l m p = 9; unfold togetherE; rw [if_neg h12, if_neg (by rw [hF0.out]; simp), if_neg (by rw [hS.out]; simp; omega), if_pos (Or.inr (show p.hi < losI l m from k2))]
                    have hne : Hid (togetherL l m p = []) := by show togetherL l m p = []; unfold togetherL; rw [hE.out]; rfl
                    have y0 := Joins.cell_of_block hyw 0
                    have y1 := Joins.cell_of_block hyw 1
                    have g0 := Joins.unfrozen_of_block hyw 0
                    have g1 := Joins.unfrozen_of_block hyw 1
                    have HP := Lib.hid (put2 (.slice none 0 0) (.int .i64 9) hyw)
                    go_wp2_with fail
                    refine bodyPost_ret (v := .agg #[.slice none 0 0, .int .i64 9]) ?_ rfl ⟨_, by rw [hE.out], by rw [hne.out]; exact Sl.nil_, (hBw.setCell (by simp) _).setCell (by simp) _⟩
                    · simp [results, Try.results66, go_sem, HP.out.1, HP.out.2]
                  · have hd2 : decide (p.hi < losP l m l.length) = false := decide_eq_false (by omega)
                    have hE : Hid (togetherE l m p = 0) := by show togetherE l m p = 0; unfold togetherE; rw [if_neg h12, if_neg (by rw [hF0.out]; simp), if_neg (by rw [hS.out]; simp; omega), if_neg (by unfold losI hisI; omega)]
                    go_wp2_with fail
                    obtain ⟨A3, cap3, hat3, hcap3, _, hS3⟩ := (own_map hown (by omega)).open_
                    rw [List.length_map] at hat3 hcap3 hS3
                    have HS3 := Lib.hid hS3
                    have hL : Hid (togetherL l m p = l.map (nearI l m p)) := by show togetherL l m p = l.map (nearI l m p); unfold togetherL; rw [if_pos hE.out]
                    obtain ⟨lw, hlw⟩ : ∃ x, x = max p.lo (losP l m l.length) := ⟨_, rfl⟩
                    obtain ⟨hg, hhg⟩ : ∃ x, x = min p.hi (hisP l m l.length) := ⟨_, rfl⟩
                    rw [hat3, ← hlw, ← hhg]
                    have b1 : losP l m l.length ≤ lw ∧ lw ≤ hisP l m l.length := by omega
                    have b2 : losP l m l.length ≤ hg ∧ hg ≤ hisP l m l.length := by omega
                    have hnear : Hid (∀ x, nearI l m p x = ⟨max (endsI x m).lo (lw - (hisP l m l.length - (endsI x m).hi)), min (endsI x m).hi (hg - (losP l m l.length - (endsI x m).lo))⟩) := by
                      intro x; rw [hlw, hhg]; rfl
                    clear hown hS3 hlw hhg e0 e1 hpw k1 k2 hb hat3
                    obtain ⟨wo, rfl⟩ : ∃ wo : World, wo = wr := ⟨_, rfl⟩
                    go_loopw [16, 17] (fun out i wr => ∃ j : Nat, j ≤ l.length ∧ i = .int .i64 j ∧ wr.ownsRow wo.heap.size 31 2 out j ((l.take j).flatMap fun b => spC (nearI l m p b)) ∧ Below wo.heap.size wo wr) (fun _ i _ => l.length - (intOf i).toNat)
                    case atStart => exact ⟨0, by omega, rfl, World.ownsRow_nil _ _ _ _, Below.refl _ _⟩
                    case round =>
                      obtain ⟨j, hj, rfl, hown, hb⟩ := hrel
                      have hbs := hb.size
                      by_cases hlt : j < l.length
                      · obtain ⟨b3, off3, x3, rfl, hb3, hx3, d0, d1⟩ := HS3.out j hlt
                        have hx := List.getElem?_eq_getElem hlt
                        obtain ⟨x, hxe⟩ : ∃ x, x = l[j] := ⟨_, rfl⟩
                        rw [← hxe] at hx
                        rw [List.getElem?_map, hx] at hx3
                        obtain rfl : x3 = endsI x m := by simpa using hx3.symm
                        have d0 := (hb.cell (p := ⟨b3, off3 + j * 2, none⟩) hb3).trans d0
                        have d1 := (hb.cell (p := ⟨b3, off3 + j * 2 + 1, none⟩) hb3).trans d1
                        have hz3 : b3 < wr.heap.size := by omega
                        have heb := ends_bound (HALL.out x (List.mem_of_getElem? hx)) m
                        have hjl : (j : Int) < l.length := by omega
                        have hj0 : (0 : Int) ≤ j := by omega
                        have htk : Hid ((l.take (j + 1)).flatMap (fun b => spC (nearI l m p b)) = (l.take j).flatMap (fun b => spC (nearI l m p b)) ++ spC (nearI l m p x)) := by
                          show (l.take (j + 1)).flatMap _ = _
                          rw [List.take_add_one, hx]; simp
                        clear hxe hx hx3
                        go_wp2_with fail
                        refine wp_region_grown_tail1 31 (by kernel_rfl) (by kernel_rfl) _ rfl rfl (fun _ _ _ _ h => h) fun hcg => ?_
                        simp only [Act.put, Act.eval, List.setIfInBounds_toArray, List.set_cons_zero, List.set_cons_succ, Array.getD_eq_getD_getElem?, List.getElem?_toArray, List.getElem?_cons_succ, List.getElem?_cons_zero, Option.getD_some, List.take_succ_cons, List.take_zero, List.drop_succ_cons, List.drop_zero]
                        repeat (go_big_quiet_step (fail))
                        refine wpQuiet_nil ?_
                        intro _ hw'
                        obtain ⟨g, hw''⟩ := hw'
                        subst hw''
                        have hBg := below_grown hb (by omega) g.b
                        have howng := own_later hown g.b
                        have hgs := g.b.size
                        go_wp2_with (at_builtin; refine wpList_append_own _ rfl _ _ 99 rfl wo.heap.size 31 i0 (.agg #[.int .i64 0, .int .i64 0]) 2 16 Try.underlying99 HI.out HI0.out HI1.out HI2.out rfl (by decide) _ _ _ rfl (howng.alloc _) ⟨g.val.heap.size, 0, none⟩ 1 1 [.int .i64 (max (endsI x m).lo (lw - (hisP l m l.length - (endsI x m).hi))), .int .i64 (min (endsI x m).hi (hg - (losP l m l.length - (endsI x m).lo)))] rfl rfl ?c1 ?c2 ?c3 ?c4 ?c5 ?_)
                        case c1 => have := cells_new g.val [.int .i64 (max (endsI x m).lo (lw - (hisP l m l.length - (endsI x m).hi))), .int .i64 (min (endsI x m).hi (hg - (losP l m l.length - (endsI x m).lo)))] 31; simpa using this
                        case c2 => intro u hu; simp at hu; rcases hu with rfl | rfl <;> rfl
                        case c3 => unfold maxLen; omega
                        case c4 => omega
                        case c5 => simp; omega
                        intro v' w3 hown3 hgrow _
                        have hBn := below_append hBg (by omega) howng hgrow
                        clear hgrow
                        go_wp2
                        go_roundw
                        case rel => exact ⟨j + 1, by omega, by go_num, by rw [htk.out, hnear.out x]; exact hown3, hBn⟩
                        case measure => simp [intOf]; omega
                      · obtain rfl : j = l.length := by omega
                        rw [List.take_length] at hown
                        have hBz := hBw.trans (hb.mono (by omega))
                        have hy := (hb.block (w.heap.size + 1) (by omega)).trans hyw
                        obtain ⟨A4, cap4, rfl⟩ := own_form hown
                        have hv2 := (ownsRow_setCell_below (ownsRow_setCell_below hown (a := ⟨w.heap.size + 1, 0, none⟩) (by simp; omega) (.slice A4 l.length cap4)) (a := ⟨w.heap.size + 1, 1, none⟩) (by simp; omega) (.int .i64 0))
                        have hout := own_map hv2 (by omega)
                        have y0 := Joins.cell_of_block hy 0
                        have y1 := Joins.cell_of_block hy 1
                        have g0 := Joins.unfrozen_of_block hy 0
                        have g1 := Joins.unfrozen_of_block hy 1
                        have HP := Lib.hid (put2 (.slice A4 l.length cap4) (.int .i64 0) hy)
                        have HO := Lib.hid hout
                        clear hout hv2 hown
                        go_wp2_with fail
                        refine bodyPost_ret (v := .agg #[.slice A4 l.length cap4, .int .i64 0]) ?_ rfl ⟨_, by rw [hE.out], by rw [hL.out]; exact HO.out, (hBz.setCell (by simp) _).setCell (by simp) _⟩
                        · simp [results, Try.results66, go_sem, HP.out.1, HP.out.2]
        · have hE : Hid (togetherE l s p = 1) := by show togetherE l s p = 1; unfold togetherE; rw [if_neg h12, if_neg (by rw [hF0.out]; simp), if_pos (Or.inl hs)]
          have hS := Lib.hid hs
          clear hs
          go_wp2_with fail
          refine (in3_b _ hS.out).mono ?_
          rintro e w1 ⟨rfl, hb1⟩
          have hw1s := hb1.size
          have hy := (hb1.block (w.heap.size + 1) (by omega)).trans hyb
          have hB := below_then hBb hb1
          have hne : Hid (togetherL l s p = []) := by show togetherL l s p = []; unfold togetherL; rw [hE.out]; rfl
          have y0 := Joins.cell_of_block hy 0
          have y1 := Joins.cell_of_block hy 1
          have g0 := Joins.unfrozen_of_block hy 0
          have g1 := Joins.unfrozen_of_block hy 1
          have HP := Lib.hid (put2 (.slice none 0 0) (.int .i64 1) hy)
          go_wp2_with fail
          refine bodyPost_ret (v := .agg #[.slice none 0 0, .int .i64 1]) ?_ rfl ⟨_, by rw [hE.out], by rw [hne.out]; exact Sl.nil_, (hB.setCell (by simp) _).setCell (by simp) _⟩
          · simp [results, Try.results66, go_sem, HP.out.1, HP.out.2]
end Go.Proofs.Ytaaeipjnhjgjdaa
/- What the program's calls have to answer: the contracts of package sample, under one name. -/
namespace Go.Proofs.Ytaaeipjnhjgjdaa
open Go.RowKit

structure Sam : Prop where
  Choose : ∀ (n k : Int) (w : World), Calls Try.prog 23 #[.int .i64 n, .int .i64 k] w fun e w' => e = .returned (.tuple #[.int .i64 (chooseR n k).1, .int .i64 (chooseR n k).2]) ∧ Below w.heap.size w w'
  Check : ∀ (b : Bt) (w : World), Calls Try.prog 30 #[btV b] w fun e w' => e = .returned (.int .i64 (checkB b)) ∧ Below w.heap.size w w'
  Ends : ∀ (b : Bt) (s : Int) (w : World), Calls Try.prog 27 #[btV b, .int .i64 s] w fun e w' => e = .returned (.tuple #[spV (endsR b s).1, .int .i64 (endsR b s).2]) ∧ Below w.heap.size w w'
  Ways : ∀ (x s : K3) (w : World), Calls Try.prog 24 #[k3V x, k3V s] w fun e w' => e = .returned (.tuple #[.int .i64 (waysR x s).1, .int .i64 (waysR x s).2]) ∧ Below w.heap.size w w'
  Chance : ∀ (x s : K3) (w : World), Calls Try.prog 70 #[k3V x, k3V s] w fun e w' => e = .returned (.tuple #[rtV (chanceR x s).1, .int .i64 (chanceR x s).2]) ∧ Below w.heap.size w w'
  Believed : ∀ (b : Bt) (s : Int) (p : Sp) (w : World), Calls Try.prog 34 #[btV b, .int .i64 s, spV p] w fun e w' => e = .returned (.tuple #[rtV (believedR b s p).1, .int .i64 (believedR b s p).2]) ∧ Below w.heap.size w w'
  Shortest : ∀ (b : Bt) (s : Int) (r : Rt) (w : World), Calls Try.prog 60 #[btV b, .int .i64 s, rtV r] w fun e w' => e = .returned (.tuple #[spV (shortestR b s r).1, .int .i64 (shortestR b s r).2]) ∧ Below w.heap.size w w'
  CheckShortest : ∀ (b : Bt) (s : Int) (r : Rt) (p : Sp) (w : World), Calls Try.prog 62 #[btV b, .int .i64 s, rtV r, spV p] w fun e w' => e = .returned (.int .i64 (checkShortI b s r p)) ∧ Below w.heap.size w w'
  Mean : ∀ (b : Bt) (s : Int) (w : World), Calls Try.prog 36 #[btV b, .int .i64 s] w fun e w' => e = .returned (.tuple #[rtV (meanR b s).1, .int .i64 (meanR b s).2]) ∧ Below w.heap.size w w'
  Next : ∀ (b : Bt) (s : Int) (w : World), Calls Try.prog 38 #[btV b, .int .i64 s] w fun e w' => e = .returned (.tuple #[rtV (nextR b s).1, .int .i64 (nextR b s).2]) ∧ Below w.heap.size w w'
  More : ∀ (b : Bt) (s : K3) (w : World), Calls Try.prog 55 #[btV b, k3V s] w fun e w' => e = .returned (.tuple #[btV (moreR b s).1, .int .i64 (moreR b s).2]) ∧ Below w.heap.size w w'
  AtMost : ∀ (n m t k : Int) (w : World), Calls Try.prog 49 #[.int .i64 n, .int .i64 m, .int .i64 t, .int .i64 k] w fun e w' => e = .returned (.tuple #[.int .i64 (atMostR n m t k).1, .int .i64 (atMostR n m t k).2]) ∧ Below w.heap.size w w'
  Upper : ∀ (n t k : Int) (r : Rt) (w : World), Calls Try.prog 47 #[.int .i64 n, .int .i64 t, .int .i64 k, rtV r] w fun e w' => e = .returned (.tuple #[.int .i64 (upperR n t k r).1, .int .i64 (upperR n t k r).2]) ∧ Below w.heap.size w w'
  Lower : ∀ (n t k : Int) (r : Rt) (w : World), Calls Try.prog 48 #[.int .i64 n, .int .i64 t, .int .i64 k, rtV r] w fun e w' => e = .returned (.tuple #[.int .i64 (lowerR n t k r).1, .int .i64 (lowerR n t k r).2]) ∧ Below w.heap.size w w'
  Pass : ∀ (n m : Int) (p : Tr) (w : World), Calls Try.prog 56 #[.int .i64 n, .int .i64 m, trV p] w fun e w' => e = .returned (.tuple #[rtV (passR n m p).1, .int .i64 (passR n m p).2]) ∧ Below w.heap.size w w'
  PassTwice : ∀ (n m : Int) (d : Db) (w : World), Calls Try.prog 58 #[.int .i64 n, .int .i64 m, dbV d] w fun e w' => e = .returned (.tuple #[rtV (twiceR n m d).1, .int .i64 (twiceR n m d).2]) ∧ Below w.heap.size w w'
  Smallest : ∀ (n g m : Int) (a r : Rt) (w : World), Calls Try.prog 50 #[.int .i64 n, .int .i64 g, .int .i64 m, rtV a, rtV r] w fun e w' => e = .returned (.tuple #[trV (smallestR n g m a r).1, .int .i64 (smallestR n g m a r).2]) ∧ Below w.heap.size w w'
  Wholes : ∀ (b : Bt) (w : World) , Calls Try.prog 25 #[btV b] w fun e w' => ∃ u, e = .returned (.tuple #[u, .int .i64 (checkB b)]) ∧ K3s w' w'.heap.size u (if checkB b = 0 then wholesL b else []) ∧ Below w.heap.size w w'
  Weights : ∀ (b : Bt) (s : Int) (w : World) , Calls Try.prog 32 #[btV b, .int .i64 s] w fun e w' => ∃ u, e = .returned (.tuple #[u, .int .i64 (kindI b s)]) ∧ Ints w' w'.heap.size u (if kindI b s = 0 then weightsL b s else []) ∧ Below w.heap.size w w'
  Together : ∀ (l : List Bt) (s : Int) (p : Sp) (v : Value) (w : World) (_ : Bts w w.heap.size v l), Calls Try.prog 65 #[v, .int .i64 s, spV p] w fun e w' => ∃ u, e = .returned (.tuple #[u, .int .i64 (togetherE l s p)]) ∧ Sps w' w'.heap.size u (togetherL l s p) ∧ Below w.heap.size w w'
end Go.Proofs.Ytaaeipjnhjgjdaa
/- The chapter's example. -/
namespace Go.Proofs.Ytaaeipjnhjgjdaa
open Go.RowKit

def threeB : Bt := ⟨3, ⟨1, 1, 0⟩, ⟨0, 3⟩, ⟨0, 3⟩, ⟨0, 3⟩⟩
theorem Three_c (w : World) : Calls Try.prog 72 #[] w fun e w' => e = .returned (btV threeB) ∧ Below w.heap.size w w' := by
  go_enter Try.func72, Try.ntmps72
  go_wp2
  refine bodyPost_ret (v := btV threeB) ?_ rfl ⟨rfl, below_alloc _ _⟩
  simp [results, Try.results72, go_sem, threeB, btV]
theorem half_c (w : World) : Calls Try.prog 73 #[] w fun e w' => e = .returned (rtV ⟨1, 2⟩) ∧ Below w.heap.size w w' := by
  go_enter Try.func73, Try.ntmps73
  go_wp2
  refine bodyPost_ret (v := rtV ⟨1, 2⟩) ?_ rfl ⟨rfl, below_alloc _ _⟩
  simp [results, Try.results73, go_sem, rtV]
theorem ex_choose : chooseR 5 2 = (10, 0) := by kernel_rfl
theorem ex_chance : chanceR ⟨2, 3, 1⟩ ⟨1, 1, 0⟩ = (⟨2, 5⟩, 0) := by kernel_rfl
theorem ex_check : checkB threeB = 0 := by kernel_rfl
theorem ex_wholes : wholesL threeB = [⟨1, 1, 1⟩, ⟨1, 2, 0⟩, ⟨2, 1, 0⟩] := by kernel_rfl
theorem ex_kind : kindI threeB 1 = 0 := by kernel_rfl
theorem ex_weights : weightsL threeB 1 = [0, 3, 2, 0] := by kernel_rfl
theorem ex_mean : meanR threeB 1 = (⟨7, 5⟩, 0) := by kernel_rfl
theorem ex_next : nextR threeB 2 = (⟨1, 5⟩, 0) := by kernel_rfl
theorem ex_shortest : shortestR threeB 1 ⟨9, 10⟩ = (⟨1, 2⟩, 0) := by kernel_rfl
theorem ex_upper : upperR 5 2 0 ⟨3, 10⟩ = (2, 0) := by kernel_rfl
theorem ex_lower : lowerR 5 2 1 ⟨1, 2⟩ = (2, 0) := by kernel_rfl
theorem ex_smallest : smallestR 5 0 3 ⟨1, 1⟩ ⟨1, 10⟩ = (⟨2, 0⟩, 0) := by kernel_rfl
theorem ex_togetherE : togetherE [threeB, threeB] 1 ⟨4, 9⟩ = 0 := by kernel_rfl
theorem ex_togetherL : togetherL [threeB, threeB] 1 ⟨4, 9⟩ = [⟨2, 2⟩, ⟨2, 2⟩] := by kernel_rfl
end Go.Proofs.Ytaaeipjnhjgjdaa
/- The chapter's examples, by the calls of the program: head. -/
namespace Go.Proofs.Ytaaeipjnhjgjdaa
open Go.RowKit

section
variable (S : Sam)
include S
theorem x_choose (w : World) : Calls Try.prog 23 #[.int .i64 5, .int .i64 2] w fun e w' => e = .returned (.tuple #[.int .i64 10, .int .i64 0]) ∧ Below w.heap.size w w' := by
  have := S.Choose 5 2 w; rw [ex_choose] at this; exact this
theorem x_chance (w : World) : Calls Try.prog 70 #[.agg #[.int .i64 2, .int .i64 3, .int .i64 1], .agg #[.int .i64 1, .int .i64 1, .int .i64 0]] w fun e w' => e = .returned (.tuple #[.agg #[.int .i64 2, .int .i64 5], .int .i64 0]) ∧ Below w.heap.size w w' := by
  have := S.Chance ⟨2, 3, 1⟩ ⟨1, 1, 0⟩ w; rw [ex_chance] at this; exact this
theorem x_wholes (w : World) : Calls Try.prog 25 #[.agg #[.int .i64 3, .int .i64 1, .int .i64 1, .int .i64 0, .int .i64 0, .int .i64 3, .int .i64 0, .int .i64 3, .int .i64 0, .int .i64 3]] w fun e w' => ∃ u, e = .returned (.tuple #[u, .int .i64 0]) ∧ K3s w' w'.heap.size u [⟨1, 1, 1⟩, ⟨1, 2, 0⟩, ⟨2, 1, 0⟩] ∧ Below w.heap.size w w' := by
  have := S.Wholes threeB w; rw [ex_check, if_pos rfl, ex_wholes] at this; exact this
theorem x_weights (w : World) : Calls Try.prog 32 #[.agg #[.int .i64 3, .int .i64 1, .int .i64 1, .int .i64 0, .int .i64 0, .int .i64 3, .int .i64 0, .int .i64 3, .int .i64 0, .int .i64 3], .int .i64 1] w fun e w' => ∃ u, e = .returned (.tuple #[u, .int .i64 0]) ∧ Ints w' w'.heap.size u [0, 3, 2, 0] ∧ Below w.heap.size w w' := by
  have := S.Weights threeB 1 w; rw [ex_kind, if_pos rfl, ex_weights] at this; exact this
theorem x_mean (w : World) : Calls Try.prog 36 #[.agg #[.int .i64 3, .int .i64 1, .int .i64 1, .int .i64 0, .int .i64 0, .int .i64 3, .int .i64 0, .int .i64 3, .int .i64 0, .int .i64 3], .int .i64 1] w fun e w' => e = .returned (.tuple #[.agg #[.int .i64 7, .int .i64 5], .int .i64 0]) ∧ Below w.heap.size w w' := by
  have := S.Mean threeB 1 w; rw [ex_mean] at this; exact this
theorem x_next (w : World) : Calls Try.prog 38 #[.agg #[.int .i64 3, .int .i64 1, .int .i64 1, .int .i64 0, .int .i64 0, .int .i64 3, .int .i64 0, .int .i64 3, .int .i64 0, .int .i64 3], .int .i64 2] w fun e w' => e = .returned (.tuple #[.agg #[.int .i64 1, .int .i64 5], .int .i64 0]) ∧ Below w.heap.size w w' := by
  have := S.Next threeB 2 w; rw [ex_next] at this; exact this
theorem x_shortest (w : World) : Calls Try.prog 60 #[.agg #[.int .i64 3, .int .i64 1, .int .i64 1, .int .i64 0, .int .i64 0, .int .i64 3, .int .i64 0, .int .i64 3, .int .i64 0, .int .i64 3], .int .i64 1, .agg #[.int .i64 9, .int .i64 10]] w fun e w' => e = .returned (.tuple #[.agg #[.int .i64 1, .int .i64 2], .int .i64 0]) ∧ Below w.heap.size w w' := by
  have := S.Shortest threeB 1 ⟨9, 10⟩ w; rw [ex_shortest] at this; exact this
theorem x_upper (w : World) : Calls Try.prog 47 #[.int .i64 5, .int .i64 2, .int .i64 0, .agg #[.int .i64 3, .int .i64 10]] w fun e w' => e = .returned (.tuple #[.int .i64 2, .int .i64 0]) ∧ Below w.heap.size w w' := by
  have := S.Upper 5 2 0 ⟨3, 10⟩ w; rw [ex_upper] at this; exact this
theorem x_lower (w : World) : Calls Try.prog 48 #[.int .i64 5, .int .i64 2, .int .i64 1, .agg #[.int .i64 1, .int .i64 2]] w fun e w' => e = .returned (.tuple #[.int .i64 2, .int .i64 0]) ∧ Below w.heap.size w w' := by
  have := S.Lower 5 2 1 ⟨1, 2⟩ w; rw [ex_lower] at this; exact this
theorem x_smallest (w : World) : Calls Try.prog 50 #[.int .i64 5, .int .i64 0, .int .i64 3, .agg #[.int .i64 1, .int .i64 1], .agg #[.int .i64 1, .int .i64 10]] w fun e w' => e = .returned (.tuple #[.agg #[.int .i64 2, .int .i64 0], .int .i64 0]) ∧ Below w.heap.size w w' := by
  have := S.Smallest 5 0 3 ⟨1, 1⟩ ⟨1, 10⟩ w; rw [ex_smallest] at this; exact this
theorem x_together (v : Value) (w : World) (hv : Bts w w.heap.size v [threeB, threeB]) : Calls Try.prog 65 #[v, .int .i64 1, .agg #[.int .i64 4, .int .i64 9]] w fun e w' => ∃ u, e = .returned (.tuple #[u, .int .i64 0]) ∧ Sps w' w'.heap.size u [⟨2, 2⟩, ⟨2, 2⟩] ∧ Below w.heap.size w w' := by
  have := S.Together [threeB, threeB] 1 ⟨4, 9⟩ v w hv; rw [ex_togetherE, ex_togetherL] at this; exact this
end
theorem sameK_t {l m : List K3} {v u : Value} {w : World} (hv : K3s w w.heap.size v l) (hu : K3s w w.heap.size u m) (h : sameBy eqK l m = true) : Calls Try.prog 29 #[v, u] w fun e w' => e = .returned (.bool true) ∧ Below w.heap.size w w' := by
  have := sameK3_c l m v u w hv hu; rw [h] at this; exact this
theorem sameI_t {l m : List Int} {v u : Value} {w : World} (hv : Ints w w.heap.size v l) (hu : Ints w w.heap.size u m) (h : sameBy eqI l m = true) : Calls Try.prog 40 #[v, u] w fun e w' => e = .returned (.bool true) ∧ Below w.heap.size w w' := by
  have := sameI3_c l m v u w hv hu; rw [h] at this; exact this
theorem sameS_t {l m : List Sp} {v u : Value} {w : World} (hv : Sps w w.heap.size v l) (hu : Sps w w.heap.size u m) (h : sameBy eqS l m = true) : Calls Try.prog 67 #[v, u] w fun e w' => e = .returned (.bool true) ∧ Below w.heap.size w w' := by
  have := sameS3_c l m v u w hv hu; rw [h] at this; exact this
theorem x_three (w : World) : Calls Try.prog 72 #[] w fun e w' => e = .returned (.agg #[.int .i64 3, .int .i64 1, .int .i64 1, .int .i64 0, .int .i64 0, .int .i64 3, .int .i64 0, .int .i64 3, .int .i64 0, .int .i64 3]) ∧ Below w.heap.size w w' := Three_c w
theorem x_half (w : World) : Calls Try.prog 73 #[] w fun e w' => e = .returned (.agg #[.int .i64 1, .int .i64 2]) ∧ Below w.heap.size w w' := half_c w
end Go.Proofs.Ytaaeipjnhjgjdaa
/- head: the chapter's examples come out. -/
namespace Go.Proofs.Ytaaeipjnhjgjdaa
open Go.RowKit

theorem built {α : Type} {c : α → List Value} {s : Nat} (hc : ∀ x, (c x).length = s) (w : World) (l : List α) (t : TypeId) (cs : Array Value) (g n : Nat) (hcs : cs = (l.flatMap c).toArray) (hl : l.length ≤ 140737488355328) (hg : g = w.heap.size) (hn : n = l.length) :
    Sl c s (w.alloc (.cells cs t)) (w.alloc (.cells cs t)).heap.size (.slice (some ⟨g, 0, none⟩) n n) l := by
  subst hg hn
  refine ⟨_, _, rfl, Nat.le_refl _, hl, fun _ => ⟨w.heap.size, 0, rfl, by simp, fun i x hx j u hu => ?_⟩⟩
  rw [World.cell?_alloc_mark w cs t (0, 0) _, hcs]
  simpa using flat_at hc l i x j u hx hu
set_option maxHeartbeats 3200000 in
set_option maxRecDepth 100000 in
theorem head_c (S : Sam) (w : World) : Calls Try.prog 22 #[] w fun e w' => e = .returned (.bool true) ∧ Below w.heap.size w w' := by
  have eqRt := Try.eqRt
  have eqSp := Try.eqSp
  have eqTr := Try.eqTr
  go_enter Try.func22, Try.ntmps22
  go_wp2_with fail
  refine (x_three _).mono ?_
  rintro e w1 ⟨rfl, hb1⟩
  have hs1 := hb1.size
  have hF1 : Below w.heap.size w w1 := hb1
  have hB1 := hF1
  clear hb1 hF1
  go_wp2_with fail
  refine (x_choose S _).mono ?_
  rintro e w2 ⟨rfl, hb2⟩
  have hs2 := hb2.size
  simp only [World.size_alloc] at hs2
  have hF2 : Below w1.heap.size w1 w2 := (below_then (below_alloc _ _) hb2)
  have hB2 := below_then hB1 hF2
  have zt2 : w1.heap.size < w2.heap.size := by omega
  have bt2 : w2.heap[w1.heap.size]? = some (.cells #[.int .i64 3, .int .i64 1, .int .i64 1, .int .i64 0, .int .i64 0, .int .i64 3, .int .i64 0, .int .i64 3, .int .i64 0, .int .i64 3] 34) := (hb2.block w1.heap.size (by simp)).trans (heap_alloc_new w1 (.cells #[.int .i64 3, .int .i64 1, .int .i64 1, .int .i64 0, .int .i64 0, .int .i64 3, .int .i64 0, .int .i64 3, .int .i64 0, .int .i64 3] 34))
  clear hb2 hF2 hB1   hs1
  go_wp2_with fail
  refine (x_chance S _).mono ?_
  rintro e w3 ⟨rfl, hb3⟩
  have hs3 := hb3.size
  have hF3 : Below w2.heap.size w2 w3 := hb3
  have hB3 := below_then hB2 hF3
  have zt3 : w1.heap.size < w3.heap.size := by omega
  have bt3 := (hF3.block w1.heap.size zt2).trans bt2
  clear hb3 hF3 hB2 zt2 bt2  hs2
  have ct0 := Joins.cell_of_block bt3 0
  have ct1 := Joins.cell_of_block bt3 1
  have ct2 := Joins.cell_of_block bt3 2
  have ct3 := Joins.cell_of_block bt3 3
  have ct4 := Joins.cell_of_block bt3 4
  have ct5 := Joins.cell_of_block bt3 5
  have ct6 := Joins.cell_of_block bt3 6
  have ct7 := Joins.cell_of_block bt3 7
  have ct8 := Joins.cell_of_block bt3 8
  have ct9 := Joins.cell_of_block bt3 9
  go_wp2_with fail
  refine (x_wholes S _).mono ?_
  rintro e w4 ⟨u1, rfl, hk4, hb4⟩
  have hs4 := hb4.size
  simp only [World.size_alloc] at hs4
  have hF4 : Below w3.heap.size w3 w4 := (below_then (below_alloc _ _) hb4)
  have hB4 := below_then hB3 hF4
  have zt4 : w1.heap.size < w4.heap.size := by omega
  have bt4 := (hF4.block w1.heap.size zt3).trans bt3
  have zc4 : w3.heap.size < w4.heap.size := by omega
  have bc4 : w4.heap[w3.heap.size]? = some (.cells #[.int .i64 2, .int .i64 5] 53) := (hb4.block w3.heap.size (by simp)).trans (heap_alloc_new w3 (.cells #[.int .i64 2, .int .i64 5] 53))
  clear hb4 hF4 hB3 zt3 bt3  hs3
  clear ct0 ct1 ct2 ct3 ct4 ct5 ct6 ct7 ct8 ct9
  have ct0 := Joins.cell_of_block bt4 0
  have ct1 := Joins.cell_of_block bt4 1
  have ct2 := Joins.cell_of_block bt4 2
  have ct3 := Joins.cell_of_block bt4 3
  have ct4 := Joins.cell_of_block bt4 4
  have ct5 := Joins.cell_of_block bt4 5
  have ct6 := Joins.cell_of_block bt4 6
  have ct7 := Joins.cell_of_block bt4 7
  have ct8 := Joins.cell_of_block bt4 8
  have ct9 := Joins.cell_of_block bt4 9
  go_wp2_with fail
  refine (x_weights S _).mono ?_
  rintro e w5 ⟨u2, rfl, hi5, hb5⟩
  have hs5 := hb5.size
  have hF5 : Below w4.heap.size w4 w5 := hb5
  have hB5 := below_then hB4 hF5
  have zt5 : w1.heap.size < w5.heap.size := by omega
  have bt5 := (hF5.block w1.heap.size zt4).trans bt4
  have zc5 : w3.heap.size < w5.heap.size := by omega
  have bc5 := (hF5.block w3.heap.size zc4).trans bc4
  have hk5 := hk4.later hF5
  clear hb5 hF5 hB4 zt4 bt4 zc4 bc4 hk4 hs4
  clear ct0 ct1 ct2 ct3 ct4 ct5 ct6 ct7 ct8 ct9
  have ct0 := Joins.cell_of_block bt5 0
  have ct1 := Joins.cell_of_block bt5 1
  have ct2 := Joins.cell_of_block bt5 2
  have ct3 := Joins.cell_of_block bt5 3
  have ct4 := Joins.cell_of_block bt5 4
  have ct5 := Joins.cell_of_block bt5 5
  have ct6 := Joins.cell_of_block bt5 6
  have ct7 := Joins.cell_of_block bt5 7
  have ct8 := Joins.cell_of_block bt5 8
  have ct9 := Joins.cell_of_block bt5 9
  go_wp2_with fail
  refine (x_mean S _).mono ?_
  rintro e w6 ⟨rfl, hb6⟩
  have hs6 := hb6.size
  have hF6 : Below w5.heap.size w5 w6 := hb6
  have hB6 := below_then hB5 hF6
  have zt6 : w1.heap.size < w6.heap.size := by omega
  have bt6 := (hF6.block w1.heap.size zt5).trans bt5
  have zc6 : w3.heap.size < w6.heap.size := by omega
  have bc6 := (hF6.block w3.heap.size zc5).trans bc5
  have hk6 := hk5.later hF6
  have hi6 := hi5.later hF6
  clear hb6 hF6 hB5 zt5 bt5 zc5 bc5 hk5 hi5 hs5
  clear ct0 ct1 ct2 ct3 ct4 ct5 ct6 ct7 ct8 ct9
  have ct0 := Joins.cell_of_block bt6 0
  have ct1 := Joins.cell_of_block bt6 1
  have ct2 := Joins.cell_of_block bt6 2
  have ct3 := Joins.cell_of_block bt6 3
  have ct4 := Joins.cell_of_block bt6 4
  have ct5 := Joins.cell_of_block bt6 5
  have ct6 := Joins.cell_of_block bt6 6
  have ct7 := Joins.cell_of_block bt6 7
  have ct8 := Joins.cell_of_block bt6 8
  have ct9 := Joins.cell_of_block bt6 9
  go_wp2_with fail
  refine (x_next S _).mono ?_
  rintro e w7 ⟨rfl, hb7⟩
  have hs7 := hb7.size
  simp only [World.size_alloc] at hs7
  have hF7 : Below w6.heap.size w6 w7 := (below_then (below_alloc _ _) hb7)
  have hB7 := below_then hB6 hF7
  have zt7 : w1.heap.size < w7.heap.size := by omega
  have bt7 := (hF7.block w1.heap.size zt6).trans bt6
  have zc7 : w3.heap.size < w7.heap.size := by omega
  have bc7 := (hF7.block w3.heap.size zc6).trans bc6
  have zm7 : w6.heap.size < w7.heap.size := by omega
  have bm7 : w7.heap[w6.heap.size]? = some (.cells #[.int .i64 7, .int .i64 5] 53) := (hb7.block w6.heap.size (by simp)).trans (heap_alloc_new w6 (.cells #[.int .i64 7, .int .i64 5] 53))
  have hk7 := hk6.later hF7
  have hi7 := hi6.later hF7
  clear hb7 hF7 hB6 zt6 bt6 zc6 bc6 hk6 hi6 hs6
  clear ct0 ct1 ct2 ct3 ct4 ct5 ct6 ct7 ct8 ct9
  have ct0 := Joins.cell_of_block bt7 0
  have ct1 := Joins.cell_of_block bt7 1
  have ct2 := Joins.cell_of_block bt7 2
  have ct3 := Joins.cell_of_block bt7 3
  have ct4 := Joins.cell_of_block bt7 4
  have ct5 := Joins.cell_of_block bt7 5
  have ct6 := Joins.cell_of_block bt7 6
  have ct7 := Joins.cell_of_block bt7 7
  have ct8 := Joins.cell_of_block bt7 8
  have ct9 := Joins.cell_of_block bt7 9
  go_wp2_with fail
  refine (x_shortest S _).mono ?_
  rintro e w8 ⟨rfl, hb8⟩
  have hs8 := hb8.size
  simp only [World.size_alloc] at hs8
  have hF8 : Below w7.heap.size w7 w8 := (below_then (below_alloc _ _) hb8)
  have hB8 := below_then hB7 hF8
  have zt8 : w1.heap.size < w8.heap.size := by omega
  have bt8 := (hF8.block w1.heap.size zt7).trans bt7
  have zc8 : w3.heap.size < w8.heap.size := by omega
  have bc8 := (hF8.block w3.heap.size zc7).trans bc7
  have zm8 : w6.heap.size < w8.heap.size := by omega
  have bm8 := (hF8.block w6.heap.size zm7).trans bm7
  have zx8 : w7.heap.size < w8.heap.size := by omega
  have bx8 : w8.heap[w7.heap.size]? = some (.cells #[.int .i64 1, .int .i64 5] 53) := (hb8.block w7.heap.size (by simp)).trans (heap_alloc_new w7 (.cells #[.int .i64 1, .int .i64 5] 53))
  have hk8 := hk7.later hF8
  have hi8 := hi7.later hF8
  clear hb8 hF8 hB7 zt7 bt7 zc7 bc7 zm7 bm7 hk7 hi7 hs7
  clear ct0 ct1 ct2 ct3 ct4 ct5 ct6 ct7 ct8 ct9
  have hx8 := (hk8.alloc (.cells #[.int .i64 1, .int .i64 2] 31)).alloc (.cells #[.int .i64 1, .int .i64 1, .int .i64 1, .int .i64 1, .int .i64 2, .int .i64 0, .int .i64 2, .int .i64 1, .int .i64 0] 23)
  have hy8 := built k3C_len (w8.alloc (.cells #[.int .i64 1, .int .i64 2] 31)) [⟨1, 1, 1⟩, ⟨1, 2, 0⟩, ⟨2, 1, 0⟩] 23 #[.int .i64 1, .int .i64 1, .int .i64 1, .int .i64 1, .int .i64 2, .int .i64 0, .int .i64 2, .int .i64 1, .int .i64 0] (w8.heap.size + 1) 3 rfl (by simp) (by simp) rfl
  go_wp2_with fail
  refine (sameK_t hx8 hy8 (by kernel_rfl)).mono ?_
  rintro e w9 ⟨rfl, hb9⟩
  have hs9 := hb9.size
  simp only [World.size_alloc] at hs9
  have hF9 : Below w8.heap.size w8 w9 := (below_then (below_alloc _ _) (below_then (below_alloc _ _) hb9))
  have hB9 := below_then hB8 hF9
  have zt9 : w1.heap.size < w9.heap.size := by omega
  have bt9 := (hF9.block w1.heap.size zt8).trans bt8
  have zc9 : w3.heap.size < w9.heap.size := by omega
  have bc9 := (hF9.block w3.heap.size zc8).trans bc8
  have zm9 : w6.heap.size < w9.heap.size := by omega
  have bm9 := (hF9.block w6.heap.size zm8).trans bm8
  have zx9 : w7.heap.size < w9.heap.size := by omega
  have bx9 := (hF9.block w7.heap.size zx8).trans bx8
  have zs9 : w8.heap.size < w9.heap.size := by omega
  have bs9 : w9.heap[w8.heap.size]? = some (.cells #[.int .i64 1, .int .i64 2] 31) := (hb9.block w8.heap.size (by simp; omega)).trans ((Below.heap_alloc _ _ _ (by simp)).trans (heap_alloc_new w8 (.cells #[.int .i64 1, .int .i64 2] 31)))
  have hk9 := hk8.later hF9
  have hi9 := hi8.later hF9
  clear hb9 hF9 hB8 zt8 bt8 zc8 bc8 zm8 bm8 zx8 bx8 hk8 hi8 hs8
  clear hx8 hy8
  clear hk9
  have hx9 := hi9.alloc (.cells #[.int .i64 0, .int .i64 3, .int .i64 2, .int .i64 0] 3)
  have hy9 : Ints (w9.alloc (.cells #[.int .i64 0, .int .i64 3, .int .i64 2, .int .i64 0] 3)) (w9.alloc (.cells #[.int .i64 0, .int .i64 3, .int .i64 2, .int .i64 0] 3)).heap.size _ [0, 3, 2, 0] := built nC_len w9 [0, 3, 2, 0] 3 #[.int .i64 0, .int .i64 3, .int .i64 2, .int .i64 0] w9.heap.size 4 rfl (by simp) rfl rfl
  go_wp2_with fail
  refine (sameI_t hx9 hy9 (by kernel_rfl)).mono ?_
  rintro e w10 ⟨rfl, hb10⟩
  have hs10 := hb10.size
  simp only [World.size_alloc] at hs10
  have hF10 : Below w9.heap.size w9 w10 := (below_then (below_alloc _ _) hb10)
  have hB10 := below_then hB9 hF10
  have zt10 : w1.heap.size < w10.heap.size := by omega
  have bt10 := (hF10.block w1.heap.size zt9).trans bt9
  have zc10 : w3.heap.size < w10.heap.size := by omega
  have bc10 := (hF10.block w3.heap.size zc9).trans bc9
  have zm10 : w6.heap.size < w10.heap.size := by omega
  have bm10 := (hF10.block w6.heap.size zm9).trans bm9
  have zx10 : w7.heap.size < w10.heap.size := by omega
  have bx10 := (hF10.block w7.heap.size zx9).trans bx9
  have zs10 : w8.heap.size < w10.heap.size := by omega
  have bs10 := (hF10.block w8.heap.size zs9).trans bs9
  have hi10 := hi9.later hF10
  clear hb10 hF10 hB9 zt9 bt9 zc9 bc9 zm9 bm9 zx9 bx9 zs9 bs9 hi9 hs9
  clear hx9 hy9 hi10
  go_wp2_with fail
  refine (x_upper S _).mono ?_
  rintro e w11 ⟨rfl, hb11⟩
  have hs11 := hb11.size
  have hF11 : Below w10.heap.size w10 w11 := hb11
  have hB11 := below_then hB10 hF11
  have zt11 : w1.heap.size < w11.heap.size := by omega
  have bt11 := (hF11.block w1.heap.size zt10).trans bt10
  have zc11 : w3.heap.size < w11.heap.size := by omega
  have bc11 := (hF11.block w3.heap.size zc10).trans bc10
  have zm11 : w6.heap.size < w11.heap.size := by omega
  have bm11 := (hF11.block w6.heap.size zm10).trans bm10
  have zx11 : w7.heap.size < w11.heap.size := by omega
  have bx11 := (hF11.block w7.heap.size zx10).trans bx10
  have zs11 : w8.heap.size < w11.heap.size := by omega
  have bs11 := (hF11.block w8.heap.size zs10).trans bs10
  clear hb11 hF11 hB10 zt10 bt10 zc10 bc10 zm10 bm10 zx10 bx10 zs10 bs10  hs10
  go_wp2_with fail
  refine (x_half _).mono ?_
  rintro e w12 ⟨rfl, hb12⟩
  have hs12 := hb12.size
  have hF12 : Below w11.heap.size w11 w12 := hb12
  have hB12 := below_then hB11 hF12
  have zt12 : w1.heap.size < w12.heap.size := by omega
  have bt12 := (hF12.block w1.heap.size zt11).trans bt11
  have zc12 : w3.heap.size < w12.heap.size := by omega
  have bc12 := (hF12.block w3.heap.size zc11).trans bc11
  have zm12 : w6.heap.size < w12.heap.size := by omega
  have bm12 := (hF12.block w6.heap.size zm11).trans bm11
  have zx12 : w7.heap.size < w12.heap.size := by omega
  have bx12 := (hF12.block w7.heap.size zx11).trans bx11
  have zs12 : w8.heap.size < w12.heap.size := by omega
  have bs12 := (hF12.block w8.heap.size zs11).trans bs11
  clear hb12 hF12 hB11 zt11 bt11 zc11 bc11 zm11 bm11 zx11 bx11 zs11 bs11  hs11
  go_wp2_with fail
  refine (x_lower S _).mono ?_
  rintro e w13 ⟨rfl, hb13⟩
  have hs13 := hb13.size
  have hF13 : Below w12.heap.size w12 w13 := hb13
  have hB13 := below_then hB12 hF13
  have zt13 : w1.heap.size < w13.heap.size := by omega
  have bt13 := (hF13.block w1.heap.size zt12).trans bt12
  have zc13 : w3.heap.size < w13.heap.size := by omega
  have bc13 := (hF13.block w3.heap.size zc12).trans bc12
  have zm13 : w6.heap.size < w13.heap.size := by omega
  have bm13 := (hF13.block w6.heap.size zm12).trans bm12
  have zx13 : w7.heap.size < w13.heap.size := by omega
  have bx13 := (hF13.block w7.heap.size zx12).trans bx12
  have zs13 : w8.heap.size < w13.heap.size := by omega
  have bs13 := (hF13.block w8.heap.size zs12).trans bs12
  clear hb13 hF13 hB12 zt12 bt12 zc12 bc12 zm12 bm12 zx12 bx12 zs12 bs12  hs12
  go_wp2_with fail
  refine (x_smallest S _).mono ?_
  rintro e w14 ⟨rfl, hb14⟩
  have hs14 := hb14.size
  have hF14 : Below w13.heap.size w13 w14 := hb14
  have hB14 := below_then hB13 hF14
  have zt14 : w1.heap.size < w14.heap.size := by omega
  have bt14 := (hF14.block w1.heap.size zt13).trans bt13
  have zc14 : w3.heap.size < w14.heap.size := by omega
  have bc14 := (hF14.block w3.heap.size zc13).trans bc13
  have zm14 : w6.heap.size < w14.heap.size := by omega
  have bm14 := (hF14.block w6.heap.size zm13).trans bm13
  have zx14 : w7.heap.size < w14.heap.size := by omega
  have bx14 := (hF14.block w7.heap.size zx13).trans bx13
  have zs14 : w8.heap.size < w14.heap.size := by omega
  have bs14 := (hF14.block w8.heap.size zs13).trans bs13
  clear hb14 hF14 hB13 zt13 bt13 zc13 bc13 zm13 bm13 zx13 bx13 zs13 bs13  hs13
  have ct0 := Joins.cell_of_block bt14 0
  have ct1 := Joins.cell_of_block bt14 1
  have ct2 := Joins.cell_of_block bt14 2
  have ct3 := Joins.cell_of_block bt14 3
  have ct4 := Joins.cell_of_block bt14 4
  have ct5 := Joins.cell_of_block bt14 5
  have ct6 := Joins.cell_of_block bt14 6
  have ct7 := Joins.cell_of_block bt14 7
  have ct8 := Joins.cell_of_block bt14 8
  have ct9 := Joins.cell_of_block bt14 9
  have hy14 := built btL_len (w14.alloc (.cells #[.int .i64 2, .int .i64 0] 80)) [threeB, threeB] 34 #[.int .i64 3, .int .i64 1, .int .i64 1, .int .i64 0, .int .i64 0, .int .i64 3, .int .i64 0, .int .i64 3, .int .i64 0, .int .i64 3, .int .i64 3, .int .i64 1, .int .i64 1, .int .i64 0, .int .i64 0, .int .i64 3, .int .i64 0, .int .i64 3, .int .i64 0, .int .i64 3] (w14.heap.size + 1) 2 rfl (by simp) (by simp) rfl
  go_wp2_with fail
  refine (x_together S _ _ hy14).mono ?_
  rintro e w15 ⟨u3, rfl, hp15, hb15⟩
  have hs15 := hb15.size
  simp only [World.size_alloc] at hs15
  have hF15 : Below w14.heap.size w14 w15 := (below_then (below_alloc _ _) (below_then (below_alloc _ _) hb15))
  have hB15 := below_then hB14 hF15
  have zt15 : w1.heap.size < w15.heap.size := by omega
  have bt15 := (hF15.block w1.heap.size zt14).trans bt14
  have zc15 : w3.heap.size < w15.heap.size := by omega
  have bc15 := (hF15.block w3.heap.size zc14).trans bc14
  have zm15 : w6.heap.size < w15.heap.size := by omega
  have bm15 := (hF15.block w6.heap.size zm14).trans bm14
  have zx15 : w7.heap.size < w15.heap.size := by omega
  have bx15 := (hF15.block w7.heap.size zx14).trans bx14
  have zs15 : w8.heap.size < w15.heap.size := by omega
  have bs15 := (hF15.block w8.heap.size zs14).trans bs14
  have zr15 : w14.heap.size < w15.heap.size := by omega
  have br15 : w15.heap[w14.heap.size]? = some (.cells #[.int .i64 2, .int .i64 0] 80) := (hb15.block w14.heap.size (by simp; omega)).trans ((Below.heap_alloc _ _ _ (by simp)).trans (heap_alloc_new w14 (.cells #[.int .i64 2, .int .i64 0] 80)))
  clear hb15 hF15 hB14 zt14 bt14 zc14 bc14 zm14 bm14 zx14 bx14 zs14 bs14  hs14
  clear ct0 ct1 ct2 ct3 ct4 ct5 ct6 ct7 ct8 ct9
  clear hy14
  have hx15 := hp15.alloc (.cells #[.int .i64 2, .int .i64 2, .int .i64 2, .int .i64 2] 31)
  have hy15 := built spC_len w15 [⟨2, 2⟩, ⟨2, 2⟩] 31 #[.int .i64 2, .int .i64 2, .int .i64 2, .int .i64 2] w15.heap.size 2 rfl (by simp) rfl rfl
  go_wp2_with fail
  refine (sameS_t hx15 hy15 (by kernel_rfl)).mono ?_
  rintro e w16 ⟨rfl, hb16⟩
  have hs16 := hb16.size
  simp only [World.size_alloc] at hs16
  have hF16 : Below w15.heap.size w15 w16 := (below_then (below_alloc _ _) hb16)
  have hB16 := below_then hB15 hF16
  have zt16 : w1.heap.size < w16.heap.size := by omega
  have bt16 := (hF16.block w1.heap.size zt15).trans bt15
  have zc16 : w3.heap.size < w16.heap.size := by omega
  have bc16 := (hF16.block w3.heap.size zc15).trans bc15
  have zm16 : w6.heap.size < w16.heap.size := by omega
  have bm16 := (hF16.block w6.heap.size zm15).trans bm15
  have zx16 : w7.heap.size < w16.heap.size := by omega
  have bx16 := (hF16.block w7.heap.size zx15).trans bx15
  have zs16 : w8.heap.size < w16.heap.size := by omega
  have bs16 := (hF16.block w8.heap.size zs15).trans bs15
  have zr16 : w14.heap.size < w16.heap.size := by omega
  have br16 := (hF16.block w14.heap.size zr15).trans br15
  have hp16 := hp15.later hF16
  clear hb16 hF16 hB15 zt15 bt15 zc15 bc15 zm15 bm15 zx15 bx15 zs15 bs15 zr15 br15 hp15 hs15
  have cc0 := Joins.cell_of_block bc16 0
  have cc1 := Joins.cell_of_block bc16 1
  have cm0 := Joins.cell_of_block bm16 0
  have cm1 := Joins.cell_of_block bm16 1
  have cx0 := Joins.cell_of_block bx16 0
  have cx1 := Joins.cell_of_block bx16 1
  have cs0 := Joins.cell_of_block bs16 0
  have cs1 := Joins.cell_of_block bs16 1
  have cr0 := Joins.cell_of_block br16 0
  have cr1 := Joins.cell_of_block br16 1
  go_wp2_with fail
  go_ret
  exact ⟨rfl, hB16⟩
end Go.Proofs.Ytaaeipjnhjgjdaa
/- Laws of layer 3 that hold the program against the reference, given the contracts of the program. -/
namespace Go.Proofs.Ytaaeipjnhjgjdaa
open Go.RowKit

theorem alloc_at (w : World) (o : Obj) {b : Nat} (h : b = w.heap.size) : (w.alloc o).heap[b]? = some o := by subst h; exact heap_alloc_new w o
theorem Sl.form {α : Type} {c : α → List Value} {s : Nat} {w : World} {B : Nat} {v : Value} {l : List α} (h : Sl c s w B v l) : ∃ A cap, v = .slice A l.length cap := by
  obtain ⟨A, cap, e, _⟩ := h
  exact ⟨A, cap, e⟩
theorem sameI_r (l : List Int) : sameBy eqI l l = true := sameBy_refl (fun x => by simp [eqI]) l
theorem sameS_r (l : List Sp) : sameBy eqS l l = true := sameBy_refl (fun x => by simp [eqS]) l
theorem sameK_r (l : List K3) : sameBy eqK l l = true := sameBy_refl (fun x => by simp [eqK]) l
set_option maxHeartbeats 3200000 in
set_option maxRecDepth 100000 in
theorem SampleWays_w (S : Sam) (n k : Int) (x s : K3) (w : World) : Calls Try.prog 20 #[.int .i64 n, .int .i64 k, k3V x, k3V s] w fun e w' => e = .returned (.bool true) ∧ Below w.heap.size w w' := by
  have eqRt := Try.eqRt
  have eqSp := Try.eqSp
  have eqTr := Try.eqTr
  have eqBt := Try.eqBt
  unfold k3V
  go_enter Try.func20, Try.ntmps20
  go_wp2_with fail
  refine (head_c S _).mono ?_
  rintro e w1 ⟨he, hb1⟩
  subst he
  have hs1 := hb1.size
  simp only [World.size_alloc] at hs1
  have hF1 : Below w.heap.size w w1 := (below_then (below_alloc _ _) (below_then (below_alloc _ _) hb1))
  have hB1 := hF1
  have za1 : w.heap.size < w1.heap.size := by omega
  have ba1 : w1.heap[w.heap.size]? = some (.cells #[.int .i64 x.a, .int .i64 x.b, .int .i64 x.c] 23) := (hb1.block (w.heap.size) (by simp <;> omega)).trans ((Below.heap_alloc _ _ _ (by simp)).trans (alloc_at w (.cells #[.int .i64 x.a, .int .i64 x.b, .int .i64 x.c] 23) (by first | rfl | simp)))
  have zb1 : w.heap.size + 1 < w1.heap.size := by omega
  have bb1 : w1.heap[w.heap.size + 1]? = some (.cells #[.int .i64 s.a, .int .i64 s.b, .int .i64 s.c] 23) := (hb1.block (w.heap.size + 1) (by simp)).trans (alloc_at (w.alloc (.cells #[.int .i64 x.a, .int .i64 x.b, .int .i64 x.c] 23)) (.cells #[.int .i64 s.a, .int .i64 s.b, .int .i64 s.c] 23) (by first | rfl | simp))
  clear hb1 hF1
  go_wp2_with fail
  refine (S.Choose n k _).mono ?_
  rintro e w2 ⟨he, hb2⟩
  subst he
  have hs2 := hb2.size
  have hF2 : Below w1.heap.size w1 w2 := hb2
  have hB2 := below_then hB1 hF2
  have za2 : w.heap.size < w2.heap.size := by omega
  have ba2 := (hF2.block (w.heap.size) za1).trans ba1
  have zb2 : w.heap.size + 1 < w2.heap.size := by omega
  have bb2 := (hF2.block (w.heap.size + 1) zb1).trans bb1
  clear hb2 hF2 hB1 hs1 za1 ba1 zb1 bb1
  go_wp2_with fail
  refine (Choose3_c n k _).mono ?_
  rintro e w3 ⟨he, hb3⟩
  subst he
  have hs3 := hb3.size
  have hF3 : Below w2.heap.size w2 w3 := hb3
  have hB3 := below_then hB2 hF3
  have za3 : w.heap.size < w3.heap.size := by omega
  have ba3 := (hF3.block (w.heap.size) za2).trans ba2
  have zb3 : w.heap.size + 1 < w3.heap.size := by omega
  have bb3 := (hF3.block (w.heap.size + 1) zb2).trans bb2
  clear hb3 hF3 hB2 hs2 za2 ba2 zb2 bb2
  have ca0 := Joins.cell_of_block ba3 0
  have ca1 := Joins.cell_of_block ba3 1
  have ca2 := Joins.cell_of_block ba3 2
  have cb0 := Joins.cell_of_block bb3 0
  have cb1 := Joins.cell_of_block bb3 1
  have cb2 := Joins.cell_of_block bb3 2
  go_wp2_with fail
  refine (S.Ways x s _).mono ?_
  rintro e w4 ⟨he, hb4⟩
  subst he
  have hs4 := hb4.size
  have hF4 : Below w3.heap.size w3 w4 := hb4
  have hB4 := below_then hB3 hF4
  have za4 : w.heap.size < w4.heap.size := by omega
  have ba4 := (hF4.block (w.heap.size) za3).trans ba3
  have zb4 : w.heap.size + 1 < w4.heap.size := by omega
  have bb4 := (hF4.block (w.heap.size + 1) zb3).trans bb3
  clear hb4 hF4 hB3 hs3 za3 ba3 zb3 bb3 ca0 ca1 ca2 cb0 cb1 cb2
  have ca0 := Joins.cell_of_block ba4 0
  have ca1 := Joins.cell_of_block ba4 1
  have ca2 := Joins.cell_of_block ba4 2
  have cb0 := Joins.cell_of_block bb4 0
  have cb1 := Joins.cell_of_block bb4 1
  have cb2 := Joins.cell_of_block bb4 2
  go_wp2_with fail
  refine (Ways3_c x s _).mono ?_
  rintro e w5 ⟨he, hb5⟩
  subst he
  have hs5 := hb5.size
  have hF5 : Below w4.heap.size w4 w5 := hb5
  have hB5 := below_then hB4 hF5
  have za5 : w.heap.size < w5.heap.size := by omega
  have ba5 := (hF5.block (w.heap.size) za4).trans ba4
  have zb5 : w.heap.size + 1 < w5.heap.size := by omega
  have bb5 := (hF5.block (w.heap.size + 1) zb4).trans bb4
  clear hb5 hF5 hB4 hs4 za4 ba4 zb4 bb4 ca0 ca1 ca2 cb0 cb1 cb2
  have ca0 := Joins.cell_of_block ba5 0
  have ca1 := Joins.cell_of_block ba5 1
  have ca2 := Joins.cell_of_block ba5 2
  have cb0 := Joins.cell_of_block bb5 0
  have cb1 := Joins.cell_of_block bb5 1
  have cb2 := Joins.cell_of_block bb5 2
  go_wp2_with fail
  refine (S.Chance x s _).mono ?_
  rintro e w6 ⟨he, hb6⟩
  unfold rtV at he
  subst he
  have hs6 := hb6.size
  have hF6 : Below w5.heap.size w5 w6 := hb6
  have hB6 := below_then hB5 hF6
  have za6 : w.heap.size < w6.heap.size := by omega
  have ba6 := (hF6.block (w.heap.size) za5).trans ba5
  have zb6 : w.heap.size + 1 < w6.heap.size := by omega
  have bb6 := (hF6.block (w.heap.size + 1) zb5).trans bb5
  clear hb6 hF6 hB5 hs5 za5 ba5 zb5 bb5 ca0 ca1 ca2 cb0 cb1 cb2
  have ca0 := Joins.cell_of_block ba6 0
  have ca1 := Joins.cell_of_block ba6 1
  have ca2 := Joins.cell_of_block ba6 2
  have cb0 := Joins.cell_of_block bb6 0
  have cb1 := Joins.cell_of_block bb6 1
  have cb2 := Joins.cell_of_block bb6 2
  go_wp2_with fail
  refine (Chance3_c x s _).mono ?_
  rintro e w7 ⟨he, hb7⟩
  unfold rtV at he
  subst he
  have hs7 := hb7.size
  simp only [World.size_alloc] at hs7
  have hF7 : Below w6.heap.size w6 w7 := (below_then (below_alloc _ _) hb7)
  have hB7 := below_then hB6 hF7
  have za7 : w.heap.size < w7.heap.size := by omega
  have ba7 := (hF7.block (w.heap.size) za6).trans ba6
  have zb7 : w.heap.size + 1 < w7.heap.size := by omega
  have bb7 := (hF7.block (w.heap.size + 1) zb6).trans bb6
  have zc7 : w6.heap.size < w7.heap.size := by omega
  have bc7 : w7.heap[w6.heap.size]? = some (.cells #[.int .i64 (chanceR x s).1.num, .int .i64 (chanceR x s).1.den] 53) := (hb7.block (w6.heap.size) (by simp)).trans (alloc_at w6 (.cells #[.int .i64 (chanceR x s).1.num, .int .i64 (chanceR x s).1.den] 53) (by first | rfl | simp))
  clear hb7 hF7 hB6 hs6 za6 ba6 zb6 bb6 ca0 ca1 ca2 cb0 cb1 cb2
  have cc0 := Joins.cell_of_block bc7 0
  have cc1 := Joins.cell_of_block bc7 1
  go_wp2_with fail
  go_ret
  exact ⟨rfl, below_then hB7 (below_then (below_alloc _ _) (Below.refl _ _))⟩
set_option maxHeartbeats 3200000 in
set_option maxRecDepth 100000 in
theorem SampleLevels_w (S : Sam) (n m t k : Int) (r : Rt) (w : World) : Calls Try.prog 10 #[.int .i64 n, .int .i64 m, .int .i64 t, .int .i64 k, rtV r] w fun e w' => e = .returned (.bool true) ∧ Below w.heap.size w w' := by
  have eqRt := Try.eqRt
  have eqSp := Try.eqSp
  have eqTr := Try.eqTr
  have eqBt := Try.eqBt
  unfold rtV
  go_enter Try.func10, Try.ntmps10
  go_wp2_with fail
  refine (head_c S _).mono ?_
  rintro e w1 ⟨he, hb1⟩
  subst he
  have hs1 := hb1.size
  simp only [World.size_alloc] at hs1
  have hF1 : Below w.heap.size w w1 := (below_then (below_alloc _ _) hb1)
  have hB1 := hF1
  have zr1 : w.heap.size < w1.heap.size := by omega
  have br1 : w1.heap[w.heap.size]? = some (.cells #[.int .i64 r.num, .int .i64 r.den] 53) := (hb1.block (w.heap.size) (by simp)).trans (alloc_at w (.cells #[.int .i64 r.num, .int .i64 r.den] 53) (by first | rfl | simp))
  clear hb1 hF1
  go_wp2_with fail
  refine (S.AtMost n m t k _).mono ?_
  rintro e w2 ⟨he, hb2⟩
  subst he
  have hs2 := hb2.size
  have hF2 : Below w1.heap.size w1 w2 := hb2
  have hB2 := below_then hB1 hF2
  have zr2 : w.heap.size < w2.heap.size := by omega
  have br2 := (hF2.block (w.heap.size) zr1).trans br1
  clear hb2 hF2 hB1 hs1 zr1 br1
  go_wp2_with fail
  refine (AtMost3_c n m t k _).mono ?_
  rintro e w3 ⟨he, hb3⟩
  subst he
  have hs3 := hb3.size
  have hF3 : Below w2.heap.size w2 w3 := hb3
  have hB3 := below_then hB2 hF3
  have zr3 : w.heap.size < w3.heap.size := by omega
  have br3 := (hF3.block (w.heap.size) zr2).trans br2
  clear hb3 hF3 hB2 hs2 zr2 br2
  have cr0 := Joins.cell_of_block br3 0
  have cr1 := Joins.cell_of_block br3 1
  go_wp2_with fail
  refine (S.Upper n t k r _).mono ?_
  rintro e w4 ⟨he, hb4⟩
  subst he
  have hs4 := hb4.size
  have hF4 : Below w3.heap.size w3 w4 := hb4
  have hB4 := below_then hB3 hF4
  have zr4 : w.heap.size < w4.heap.size := by omega
  have br4 := (hF4.block (w.heap.size) zr3).trans br3
  clear hb4 hF4 hB3 hs3 zr3 br3 cr0 cr1
  have cr0 := Joins.cell_of_block br4 0
  have cr1 := Joins.cell_of_block br4 1
  go_wp2_with fail
  refine (Upper3_c n t k r _).mono ?_
  rintro e w5 ⟨he, hb5⟩
  subst he
  have hs5 := hb5.size
  have hF5 : Below w4.heap.size w4 w5 := hb5
  have hB5 := below_then hB4 hF5
  have zr5 : w.heap.size < w5.heap.size := by omega
  have br5 := (hF5.block (w.heap.size) zr4).trans br4
  clear hb5 hF5 hB4 hs4 zr4 br4 cr0 cr1
  have cr0 := Joins.cell_of_block br5 0
  have cr1 := Joins.cell_of_block br5 1
  go_wp2_with fail
  refine (S.Lower n t k r _).mono ?_
  rintro e w6 ⟨he, hb6⟩
  subst he
  have hs6 := hb6.size
  have hF6 : Below w5.heap.size w5 w6 := hb6
  have hB6 := below_then hB5 hF6
  have zr6 : w.heap.size < w6.heap.size := by omega
  have br6 := (hF6.block (w.heap.size) zr5).trans br5
  clear hb6 hF6 hB5 hs5 zr5 br5 cr0 cr1
  have cr0 := Joins.cell_of_block br6 0
  have cr1 := Joins.cell_of_block br6 1
  go_wp2_with fail
  refine (Lower3_c n t k r _).mono ?_
  rintro e w7 ⟨he, hb7⟩
  subst he
  have hs7 := hb7.size
  have hF7 : Below w6.heap.size w6 w7 := hb7
  have hB7 := below_then hB6 hF7
  have zr7 : w.heap.size < w7.heap.size := by omega
  have br7 := (hF7.block (w.heap.size) zr6).trans br6
  clear hb7 hF7 hB6 hs6 zr6 br6 cr0 cr1
  go_wp2_with fail
  go_ret
  exact ⟨rfl, below_then hB7 (Below.refl _ _)⟩
set_option maxHeartbeats 3200000 in
set_option maxRecDepth 100000 in
theorem SamplePlans_w (S : Sam) (n m : Int) (p : Tr) (d : Db) (w : World) : Calls Try.prog 14 #[.int .i64 n, .int .i64 m, trV p, dbV d] w fun e w' => e = .returned (.bool true) ∧ Below w.heap.size w w' := by
  have eqRt := Try.eqRt
  have eqSp := Try.eqSp
  have eqTr := Try.eqTr
  have eqBt := Try.eqBt
  unfold trV dbV
  go_enter Try.func14, Try.ntmps14
  go_wp2_with fail
  refine (head_c S _).mono ?_
  rintro e w1 ⟨he, hb1⟩
  subst he
  have hs1 := hb1.size
  simp only [World.size_alloc] at hs1
  have hF1 : Below w.heap.size w w1 := (below_then (below_alloc _ _) (below_then (below_alloc _ _) hb1))
  have hB1 := hF1
  have zp1 : w.heap.size < w1.heap.size := by omega
  have bp1 : w1.heap[w.heap.size]? = some (.cells #[.int .i64 p.sample, .int .i64 p.accept] 80) := (hb1.block (w.heap.size) (by simp <;> omega)).trans ((Below.heap_alloc _ _ _ (by simp)).trans (alloc_at w (.cells #[.int .i64 p.sample, .int .i64 p.accept] 80) (by first | rfl | simp)))
  have zd1 : w.heap.size + 1 < w1.heap.size := by omega
  have bd1 : w1.heap[w.heap.size + 1]? = some (.cells #[.int .i64 d.first, .int .i64 d.accept, .int .i64 d.refuse, .int .i64 d.second, .int .i64 d.together] 92) := (hb1.block (w.heap.size + 1) (by simp)).trans (alloc_at (w.alloc (.cells #[.int .i64 p.sample, .int .i64 p.accept] 80)) (.cells #[.int .i64 d.first, .int .i64 d.accept, .int .i64 d.refuse, .int .i64 d.second, .int .i64 d.together] 92) (by first | rfl | simp))
  clear hb1 hF1
  have cp0 := Joins.cell_of_block bp1 0
  have cp1 := Joins.cell_of_block bp1 1
  go_wp2_with fail
  refine (S.Pass n m p _).mono ?_
  rintro e w2 ⟨he, hb2⟩
  unfold rtV at he
  subst he
  have hs2 := hb2.size
  have hF2 : Below w1.heap.size w1 w2 := hb2
  have hB2 := below_then hB1 hF2
  have zp2 : w.heap.size < w2.heap.size := by omega
  have bp2 := (hF2.block (w.heap.size) zp1).trans bp1
  have zd2 : w.heap.size + 1 < w2.heap.size := by omega
  have bd2 := (hF2.block (w.heap.size + 1) zd1).trans bd1
  clear hb2 hF2 hB1 hs1 zp1 bp1 zd1 bd1 cp0 cp1
  have cp0 := Joins.cell_of_block bp2 0
  have cp1 := Joins.cell_of_block bp2 1
  go_wp2_with fail
  refine (Pass3_c n m p _).mono ?_
  rintro e w3 ⟨he, hb3⟩
  unfold rtV at he
  subst he
  have hs3 := hb3.size
  simp only [World.size_alloc] at hs3
  have hF3 : Below w2.heap.size w2 w3 := (below_then (below_alloc _ _) hb3)
  have hB3 := below_then hB2 hF3
  have zp3 : w.heap.size < w3.heap.size := by omega
  have bp3 := (hF3.block (w.heap.size) zp2).trans bp2
  have zd3 : w.heap.size + 1 < w3.heap.size := by omega
  have bd3 := (hF3.block (w.heap.size + 1) zd2).trans bd2
  have za3 : w2.heap.size < w3.heap.size := by omega
  have ba3 : w3.heap[w2.heap.size]? = some (.cells #[.int .i64 (passR n m p).1.num, .int .i64 (passR n m p).1.den] 53) := (hb3.block (w2.heap.size) (by simp)).trans (alloc_at w2 (.cells #[.int .i64 (passR n m p).1.num, .int .i64 (passR n m p).1.den] 53) (by first | rfl | simp))
  clear hb3 hF3 hB2 hs2 zp2 bp2 zd2 bd2 cp0 cp1
  have cd0 := Joins.cell_of_block bd3 0
  have cd1 := Joins.cell_of_block bd3 1
  have cd2 := Joins.cell_of_block bd3 2
  have cd3 := Joins.cell_of_block bd3 3
  have cd4 := Joins.cell_of_block bd3 4
  go_wp2_with fail
  refine (S.PassTwice n m d _).mono ?_
  rintro e w4 ⟨he, hb4⟩
  unfold rtV at he
  subst he
  have hs4 := hb4.size
  simp only [World.size_alloc] at hs4
  have hF4 : Below w3.heap.size w3 w4 := (below_then (below_alloc _ _) hb4)
  have hB4 := below_then hB3 hF4
  have zp4 : w.heap.size < w4.heap.size := by omega
  have bp4 := (hF4.block (w.heap.size) zp3).trans bp3
  have zd4 : w.heap.size + 1 < w4.heap.size := by omega
  have bd4 := (hF4.block (w.heap.size + 1) zd3).trans bd3
  have za4 : w2.heap.size < w4.heap.size := by omega
  have ba4 := (hF4.block (w2.heap.size) za3).trans ba3
  have zb4 : w3.heap.size < w4.heap.size := by omega
  have bb4 : w4.heap[w3.heap.size]? = some (.cells #[.int .i64 (passR n m p).1.num, .int .i64 (passR n m p).1.den] 53) := (hb4.block (w3.heap.size) (by simp)).trans (alloc_at w3 (.cells #[.int .i64 (passR n m p).1.num, .int .i64 (passR n m p).1.den] 53) (by first | rfl | simp))
  clear hb4 hF4 hB3 hs3 zp3 bp3 zd3 bd3 za3 ba3 cd0 cd1 cd2 cd3 cd4
  have cd0 := Joins.cell_of_block bd4 0
  have cd1 := Joins.cell_of_block bd4 1
  have cd2 := Joins.cell_of_block bd4 2
  have cd3 := Joins.cell_of_block bd4 3
  have cd4 := Joins.cell_of_block bd4 4
  go_wp2_with fail
  refine (PassTwice3_c n m d _).mono ?_
  rintro e w5 ⟨he, hb5⟩
  unfold rtV at he
  subst he
  have hs5 := hb5.size
  simp only [World.size_alloc] at hs5
  have hF5 : Below w4.heap.size w4 w5 := (below_then (below_alloc _ _) hb5)
  have hB5 := below_then hB4 hF5
  have zp5 : w.heap.size < w5.heap.size := by omega
  have bp5 := (hF5.block (w.heap.size) zp4).trans bp4
  have zd5 : w.heap.size + 1 < w5.heap.size := by omega
  have bd5 := (hF5.block (w.heap.size + 1) zd4).trans bd4
  have za5 : w2.heap.size < w5.heap.size := by omega
  have ba5 := (hF5.block (w2.heap.size) za4).trans ba4
  have zb5 : w3.heap.size < w5.heap.size := by omega
  have bb5 := (hF5.block (w3.heap.size) zb4).trans bb4
  have zx5 : w4.heap.size < w5.heap.size := by omega
  have bx5 : w5.heap[w4.heap.size]? = some (.cells #[.int .i64 (twiceR n m d).1.num, .int .i64 (twiceR n m d).1.den] 53) := (hb5.block (w4.heap.size) (by simp)).trans (alloc_at w4 (.cells #[.int .i64 (twiceR n m d).1.num, .int .i64 (twiceR n m d).1.den] 53) (by first | rfl | simp))
  clear hb5 hF5 hB4 hs4 zp4 bp4 zd4 bd4 za4 ba4 zb4 bb4 cd0 cd1 cd2 cd3 cd4
  have ca0 := Joins.cell_of_block ba5 0
  have ca1 := Joins.cell_of_block ba5 1
  have cb0 := Joins.cell_of_block bb5 0
  have cb1 := Joins.cell_of_block bb5 1
  have cx0 := Joins.cell_of_block bx5 0
  have cx1 := Joins.cell_of_block bx5 1
  go_wp2_with fail
  go_ret
  exact ⟨rfl, below_then hB5 (below_then (below_alloc _ _) (Below.refl _ _))⟩
set_option maxHeartbeats 3200000 in
set_option maxRecDepth 100000 in
theorem SampleMore_w (S : Sam) (b : Bt) (s : K3) (w : World) : Calls Try.prog 12 #[btV b, k3V s] w fun e w' => e = .returned (.bool true) ∧ Below w.heap.size w w' := by
  have eqRt := Try.eqRt
  have eqSp := Try.eqSp
  have eqTr := Try.eqTr
  have eqBt := Try.eqBt
  unfold btV k3V
  go_enter Try.func12, Try.ntmps12
  go_wp2_with fail
  refine (head_c S _).mono ?_
  rintro e w1 ⟨he, hb1⟩
  subst he
  have hs1 := hb1.size
  simp only [World.size_alloc] at hs1
  have hF1 : Below w.heap.size w w1 := (below_then (below_alloc _ _) (below_then (below_alloc _ _) hb1))
  have hB1 := hF1
  have zb1 : w.heap.size < w1.heap.size := by omega
  have bb1 : w1.heap[w.heap.size]? = some (.cells #[.int .i64 b.n, .int .i64 b.s.a, .int .i64 b.s.b, .int .i64 b.s.c, .int .i64 b.k0.lo, .int .i64 b.k0.hi, .int .i64 b.k1.lo, .int .i64 b.k1.hi, .int .i64 b.k2.lo, .int .i64 b.k2.hi] 34) := (hb1.block (w.heap.size) (by simp <;> omega)).trans ((Below.heap_alloc _ _ _ (by simp)).trans (alloc_at w (.cells #[.int .i64 b.n, .int .i64 b.s.a, .int .i64 b.s.b, .int .i64 b.s.c, .int .i64 b.k0.lo, .int .i64 b.k0.hi, .int .i64 b.k1.lo, .int .i64 b.k1.hi, .int .i64 b.k2.lo, .int .i64 b.k2.hi] 34) (by first | rfl | simp)))
  have zs1 : w.heap.size + 1 < w1.heap.size := by omega
  have bs1 : w1.heap[w.heap.size + 1]? = some (.cells #[.int .i64 s.a, .int .i64 s.b, .int .i64 s.c] 23) := (hb1.block (w.heap.size + 1) (by simp)).trans (alloc_at (w.alloc (.cells #[.int .i64 b.n, .int .i64 b.s.a, .int .i64 b.s.b, .int .i64 b.s.c, .int .i64 b.k0.lo, .int .i64 b.k0.hi, .int .i64 b.k1.lo, .int .i64 b.k1.hi, .int .i64 b.k2.lo, .int .i64 b.k2.hi] 34)) (.cells #[.int .i64 s.a, .int .i64 s.b, .int .i64 s.c] 23) (by first | rfl | simp))
  clear hb1 hF1
  have cb0 := Joins.cell_of_block bb1 0
  have cb1 := Joins.cell_of_block bb1 1
  have cb2 := Joins.cell_of_block bb1 2
  have cb3 := Joins.cell_of_block bb1 3
  have cb4 := Joins.cell_of_block bb1 4
  have cb5 := Joins.cell_of_block bb1 5
  have cb6 := Joins.cell_of_block bb1 6
  have cb7 := Joins.cell_of_block bb1 7
  have cb8 := Joins.cell_of_block bb1 8
  have cb9 := Joins.cell_of_block bb1 9
  have cs0 := Joins.cell_of_block bs1 0
  have cs1 := Joins.cell_of_block bs1 1
  have cs2 := Joins.cell_of_block bs1 2
  go_wp2_with fail
  refine (S.More b s _).mono ?_
  rintro e w2 ⟨he, hb2⟩
  unfold btV at he
  subst he
  have hs2 := hb2.size
  have hF2 : Below w1.heap.size w1 w2 := hb2
  have hB2 := below_then hB1 hF2
  have zb2 : w.heap.size < w2.heap.size := by omega
  have bb2 := (hF2.block (w.heap.size) zb1).trans bb1
  have zs2 : w.heap.size + 1 < w2.heap.size := by omega
  have bs2 := (hF2.block (w.heap.size + 1) zs1).trans bs1
  clear hb2 hF2 hB1 hs1 zb1 bb1 zs1 bs1 cb0 cb1 cb2 cb3 cb4 cb5 cb6 cb7 cb8 cb9 cs0 cs1 cs2
  have cb0 := Joins.cell_of_block bb2 0
  have cb1 := Joins.cell_of_block bb2 1
  have cb2 := Joins.cell_of_block bb2 2
  have cb3 := Joins.cell_of_block bb2 3
  have cb4 := Joins.cell_of_block bb2 4
  have cb5 := Joins.cell_of_block bb2 5
  have cb6 := Joins.cell_of_block bb2 6
  have cb7 := Joins.cell_of_block bb2 7
  have cb8 := Joins.cell_of_block bb2 8
  have cb9 := Joins.cell_of_block bb2 9
  have cs0 := Joins.cell_of_block bs2 0
  have cs1 := Joins.cell_of_block bs2 1
  have cs2 := Joins.cell_of_block bs2 2
  go_wp2_with fail
  refine (More3_c b s _).mono ?_
  rintro e w3 ⟨he, hb3⟩
  unfold madeV at he
  subst he
  have hs3 := hb3.size
  simp only [World.size_alloc] at hs3
  have hF3 : Below w2.heap.size w2 w3 := (below_then (below_alloc _ _) hb3)
  have hB3 := below_then hB2 hF3
  have zb3 : w.heap.size < w3.heap.size := by omega
  have bb3 := (hF3.block (w.heap.size) zb2).trans bb2
  have zs3 : w.heap.size + 1 < w3.heap.size := by omega
  have bs3 := (hF3.block (w.heap.size + 1) zs2).trans bs2
  have zx3 : w2.heap.size < w3.heap.size := by omega
  have bx3 : w3.heap[w2.heap.size]? = some (.cells #[.int .i64 (moreR b s).1.n, .int .i64 (moreR b s).1.s.a, .int .i64 (moreR b s).1.s.b, .int .i64 (moreR b s).1.s.c, .int .i64 (moreR b s).1.k0.lo, .int .i64 (moreR b s).1.k0.hi, .int .i64 (moreR b s).1.k1.lo, .int .i64 (moreR b s).1.k1.hi, .int .i64 (moreR b s).1.k2.lo, .int .i64 (moreR b s).1.k2.hi] 34) := (hb3.block (w2.heap.size) (by simp)).trans (alloc_at w2 (.cells #[.int .i64 (moreR b s).1.n, .int .i64 (moreR b s).1.s.a, .int .i64 (moreR b s).1.s.b, .int .i64 (moreR b s).1.s.c, .int .i64 (moreR b s).1.k0.lo, .int .i64 (moreR b s).1.k0.hi, .int .i64 (moreR b s).1.k1.lo, .int .i64 (moreR b s).1.k1.hi, .int .i64 (moreR b s).1.k2.lo, .int .i64 (moreR b s).1.k2.hi] 34) (by first | rfl | simp))
  clear hb3 hF3 hB2 hs2 zb2 bb2 zs2 bs2 cb0 cb1 cb2 cb3 cb4 cb5 cb6 cb7 cb8 cb9 cs0 cs1 cs2
  have cx0 := Joins.cell_of_block bx3 0
  have cx1 := Joins.cell_of_block bx3 1
  have cx2 := Joins.cell_of_block bx3 2
  have cx3 := Joins.cell_of_block bx3 3
  have cx4 := Joins.cell_of_block bx3 4
  have cx5 := Joins.cell_of_block bx3 5
  have cx6 := Joins.cell_of_block bx3 6
  have cx7 := Joins.cell_of_block bx3 7
  have cx8 := Joins.cell_of_block bx3 8
  have cx9 := Joins.cell_of_block bx3 9
  go_wp2_with fail
  go_ret
  exact ⟨rfl, below_then hB3 (below_then (below_alloc _ _) (Below.refl _ _))⟩
set_option maxHeartbeats 3200000 in
set_option maxRecDepth 100000 in
theorem SampleSmallest_w (S : Sam) (n k m : Int) (a r : Rt) (w : World) : Calls Try.prog 16 #[.int .i64 n, .int .i64 k, .int .i64 m, rtV a, rtV r] w fun e w' => e = .returned (.bool true) ∧ Below w.heap.size w w' := by
  have eqRt := Try.eqRt
  have eqSp := Try.eqSp
  have eqTr := Try.eqTr
  have eqBt := Try.eqBt
  unfold rtV
  go_enter Try.func16, Try.ntmps16
  go_wp2_with fail
  refine (head_c S _).mono ?_
  rintro e w1 ⟨he, hb1⟩
  subst he
  have hs1 := hb1.size
  simp only [World.size_alloc] at hs1
  have hF1 : Below w.heap.size w w1 := (below_then (below_alloc _ _) (below_then (below_alloc _ _) hb1))
  have hB1 := hF1
  have za1 : w.heap.size < w1.heap.size := by omega
  have ba1 : w1.heap[w.heap.size]? = some (.cells #[.int .i64 a.num, .int .i64 a.den] 53) := (hb1.block (w.heap.size) (by simp <;> omega)).trans ((Below.heap_alloc _ _ _ (by simp)).trans (alloc_at w (.cells #[.int .i64 a.num, .int .i64 a.den] 53) (by first | rfl | simp)))
  have zr1 : w.heap.size + 1 < w1.heap.size := by omega
  have br1 : w1.heap[w.heap.size + 1]? = some (.cells #[.int .i64 r.num, .int .i64 r.den] 53) := (hb1.block (w.heap.size + 1) (by simp)).trans (alloc_at (w.alloc (.cells #[.int .i64 a.num, .int .i64 a.den] 53)) (.cells #[.int .i64 r.num, .int .i64 r.den] 53) (by first | rfl | simp))
  clear hb1 hF1
  by_cases h1 : 20 < n
  · have d1 : decide (n > 20) = true := decide_eq_true h1
    by_cases h2 : n ≤ 50
    · have d2 : decide (n ≤ 50) = true := decide_eq_true h2
      clear h1 h2
      go_wp2_with fail
      go_ret
      exact ⟨rfl, hB1⟩
    · have d2 : decide (n ≤ 50) = false := decide_eq_false h2
      clear h1 h2
      have ca0 := Joins.cell_of_block ba1 0
      have ca1 := Joins.cell_of_block ba1 1
      have cr0 := Joins.cell_of_block br1 0
      have cr1 := Joins.cell_of_block br1 1
      go_wp2_with fail
      refine (S.Smallest n k m a r _).mono ?_
      rintro e w2 ⟨he, hb2⟩
      unfold trV at he
      subst he
      have hs2 := hb2.size
      have hF2 : Below w1.heap.size w1 w2 := hb2
      have hB2 := below_then hB1 hF2
      have za2 : w.heap.size < w2.heap.size := by omega
      have ba2 := (hF2.block (w.heap.size) za1).trans ba1
      have zr2 : w.heap.size + 1 < w2.heap.size := by omega
      have br2 := (hF2.block (w.heap.size + 1) zr1).trans br1
      clear hb2 hF2 hB1 hs1 za1 ba1 zr1 br1 ca0 ca1 cr0 cr1
      have ca0 := Joins.cell_of_block ba2 0
      have ca1 := Joins.cell_of_block ba2 1
      have cr0 := Joins.cell_of_block br2 0
      have cr1 := Joins.cell_of_block br2 1
      go_wp2_with fail
      refine (Smallest3_c n k m a r _).mono ?_
      rintro e w3 ⟨he, hb3⟩
      unfold trV at he
      subst he
      have hs3 := hb3.size
      simp only [World.size_alloc] at hs3
      have hF3 : Below w2.heap.size w2 w3 := (below_then (below_alloc _ _) hb3)
      have hB3 := below_then hB2 hF3
      have za3 : w.heap.size < w3.heap.size := by omega
      have ba3 := (hF3.block (w.heap.size) za2).trans ba2
      have zr3 : w.heap.size + 1 < w3.heap.size := by omega
      have br3 := (hF3.block (w.heap.size + 1) zr2).trans br2
      have zx3 : w2.heap.size < w3.heap.size := by omega
      have bx3 : w3.heap[w2.heap.size]? = some (.cells #[.int .i64 (smallestR n k m a r).1.sample, .int .i64 (smallestR n k m a r).1.accept] 80) := (hb3.block (w2.heap.size) (by simp)).trans (alloc_at w2 (.cells #[.int .i64 (smallestR n k m a r).1.sample, .int .i64 (smallestR n k m a r).1.accept] 80) (by first | rfl | simp))
      clear hb3 hF3 hB2 hs2 za2 ba2 zr2 br2 ca0 ca1 cr0 cr1
      have cx0 := Joins.cell_of_block bx3 0
      have cx1 := Joins.cell_of_block bx3 1
      go_wp2_with fail
      go_ret
      exact ⟨rfl, below_then hB3 (below_then (below_alloc _ _) (Below.refl _ _))⟩
  · have d1 : decide (n > 20) = false := decide_eq_false h1
    clear h1
    have ca0 := Joins.cell_of_block ba1 0
    have ca1 := Joins.cell_of_block ba1 1
    have cr0 := Joins.cell_of_block br1 0
    have cr1 := Joins.cell_of_block br1 1
    go_wp2_with fail
    refine (S.Smallest n k m a r _).mono ?_
    rintro e w2 ⟨he, hb2⟩
    unfold trV at he
    subst he
    have hs2 := hb2.size
    have hF2 : Below w1.heap.size w1 w2 := hb2
    have hB2 := below_then hB1 hF2
    have za2 : w.heap.size < w2.heap.size := by omega
    have ba2 := (hF2.block (w.heap.size) za1).trans ba1
    have zr2 : w.heap.size + 1 < w2.heap.size := by omega
    have br2 := (hF2.block (w.heap.size + 1) zr1).trans br1
    clear hb2 hF2 hB1 hs1 za1 ba1 zr1 br1 ca0 ca1 cr0 cr1
    have ca0 := Joins.cell_of_block ba2 0
    have ca1 := Joins.cell_of_block ba2 1
    have cr0 := Joins.cell_of_block br2 0
    have cr1 := Joins.cell_of_block br2 1
    go_wp2_with fail
    refine (Smallest3_c n k m a r _).mono ?_
    rintro e w3 ⟨he, hb3⟩
    unfold trV at he
    subst he
    have hs3 := hb3.size
    simp only [World.size_alloc] at hs3
    have hF3 : Below w2.heap.size w2 w3 := (below_then (below_alloc _ _) hb3)
    have hB3 := below_then hB2 hF3
    have za3 : w.heap.size < w3.heap.size := by omega
    have ba3 := (hF3.block (w.heap.size) za2).trans ba2
    have zr3 : w.heap.size + 1 < w3.heap.size := by omega
    have br3 := (hF3.block (w.heap.size + 1) zr2).trans br2
    have zx3 : w2.heap.size < w3.heap.size := by omega
    have bx3 : w3.heap[w2.heap.size]? = some (.cells #[.int .i64 (smallestR n k m a r).1.sample, .int .i64 (smallestR n k m a r).1.accept] 80) := (hb3.block (w2.heap.size) (by simp)).trans (alloc_at w2 (.cells #[.int .i64 (smallestR n k m a r).1.sample, .int .i64 (smallestR n k m a r).1.accept] 80) (by first | rfl | simp))
    clear hb3 hF3 hB2 hs2 za2 ba2 zr2 br2 ca0 ca1 cr0 cr1
    have cx0 := Joins.cell_of_block bx3 0
    have cx1 := Joins.cell_of_block bx3 1
    go_wp2_with fail
    go_ret
    exact ⟨rfl, below_then hB3 (below_then (below_alloc _ _) (Below.refl _ _))⟩
set_option maxHeartbeats 3200000 in
set_option maxRecDepth 100000 in
theorem SampleBelief_w (S : Sam) (b : Bt) (s : Int) (p : Sp) (w : World) : Calls Try.prog 5 #[btV b, .int .i64 s, spV p] w fun e w' => e = .returned (.bool true) ∧ Below w.heap.size w w' := by
  have eqRt := Try.eqRt
  have eqSp := Try.eqSp
  have eqTr := Try.eqTr
  have eqBt := Try.eqBt
  have q1 := fun w => S.Weights b s w
  have q2 := fun w => Weights3_c b s w
  generalize (if kindI b s = 0 then weightsL b s else []) = WL at q1 q2
  have Q1 := Lib.hid q1
  have Q2 := Lib.hid q2
  clear q1 q2
  unfold btV spV at *
  go_enter Try.func5, Try.ntmps5
  go_wp2_with fail
  refine (head_c S _).mono ?_
  rintro e w1 ⟨he, hb1⟩
  subst he
  have hs1 := hb1.size
  simp only [World.size_alloc] at hs1
  have hF1 : Below w.heap.size w w1 := (below_then (below_alloc _ _) (below_then (below_alloc _ _) hb1))
  have hB1 := hF1
  have zb1 : w.heap.size < w1.heap.size := by omega
  have bb1 : w1.heap[w.heap.size]? = some (.cells #[.int .i64 b.n, .int .i64 b.s.a, .int .i64 b.s.b, .int .i64 b.s.c, .int .i64 b.k0.lo, .int .i64 b.k0.hi, .int .i64 b.k1.lo, .int .i64 b.k1.hi, .int .i64 b.k2.lo, .int .i64 b.k2.hi] 34) := (hb1.block (w.heap.size) (by simp <;> omega)).trans ((Below.heap_alloc _ _ _ (by simp)).trans (alloc_at w (.cells #[.int .i64 b.n, .int .i64 b.s.a, .int .i64 b.s.b, .int .i64 b.s.c, .int .i64 b.k0.lo, .int .i64 b.k0.hi, .int .i64 b.k1.lo, .int .i64 b.k1.hi, .int .i64 b.k2.lo, .int .i64 b.k2.hi] 34) (by first | rfl | simp)))
  have zs1 : w.heap.size + 1 < w1.heap.size := by omega
  have bs1 : w1.heap[w.heap.size + 1]? = some (.cells #[.int .i64 p.lo, .int .i64 p.hi] 31) := (hb1.block (w.heap.size + 1) (by simp)).trans (alloc_at (w.alloc (.cells #[.int .i64 b.n, .int .i64 b.s.a, .int .i64 b.s.b, .int .i64 b.s.c, .int .i64 b.k0.lo, .int .i64 b.k0.hi, .int .i64 b.k1.lo, .int .i64 b.k1.hi, .int .i64 b.k2.lo, .int .i64 b.k2.hi] 34)) (.cells #[.int .i64 p.lo, .int .i64 p.hi] 31) (by first | rfl | simp))
  clear hb1 hF1
  have cb0 := Joins.cell_of_block bb1 0
  have cb1 := Joins.cell_of_block bb1 1
  have cb2 := Joins.cell_of_block bb1 2
  have cb3 := Joins.cell_of_block bb1 3
  have cb4 := Joins.cell_of_block bb1 4
  have cb5 := Joins.cell_of_block bb1 5
  have cb6 := Joins.cell_of_block bb1 6
  have cb7 := Joins.cell_of_block bb1 7
  have cb8 := Joins.cell_of_block bb1 8
  have cb9 := Joins.cell_of_block bb1 9
  go_wp2_with fail
  refine (Q1.out _).mono ?_
  rintro e w2 ⟨hlu, he, hl2, hb2⟩
  obtain ⟨hlA, hlC, rfl⟩ := hl2.form
  subst he
  have hs2 := hb2.size
  have hF2 : Below w1.heap.size w1 w2 := hb2
  have hB2 := below_then hB1 hF2
  have zb2 : w.heap.size < w2.heap.size := by omega
  have bb2 := (hF2.block (w.heap.size) zb1).trans bb1
  have zs2 : w.heap.size + 1 < w2.heap.size := by omega
  have bs2 := (hF2.block (w.heap.size + 1) zs1).trans bs1
  clear hb2 hF2 hB1 hs1 zb1 bb1 zs1 bs1 cb0 cb1 cb2 cb3 cb4 cb5 cb6 cb7 cb8 cb9
  have cb0 := Joins.cell_of_block bb2 0
  have cb1 := Joins.cell_of_block bb2 1
  have cb2 := Joins.cell_of_block bb2 2
  have cb3 := Joins.cell_of_block bb2 3
  have cb4 := Joins.cell_of_block bb2 4
  have cb5 := Joins.cell_of_block bb2 5
  have cb6 := Joins.cell_of_block bb2 6
  have cb7 := Joins.cell_of_block bb2 7
  have cb8 := Joins.cell_of_block bb2 8
  have cb9 := Joins.cell_of_block bb2 9
  go_wp2_with fail
  refine (Q2.out _).mono ?_
  rintro e w3 ⟨hmu, he, hm3, hb3⟩
  obtain ⟨hmA, hmC, rfl⟩ := hm3.form
  subst he
  have hs3 := hb3.size
  have hF3 : Below w2.heap.size w2 w3 := hb3
  have hB3 := below_then hB2 hF3
  have zb3 : w.heap.size < w3.heap.size := by omega
  have bb3 := (hF3.block (w.heap.size) zb2).trans bb2
  have zs3 : w.heap.size + 1 < w3.heap.size := by omega
  have bs3 := (hF3.block (w.heap.size + 1) zs2).trans bs2
  have hl3 := hl2.later hF3
  clear hb3 hF3 hB2 hs2 zb2 bb2 zs2 bs2 hl2 cb0 cb1 cb2 cb3 cb4 cb5 cb6 cb7 cb8 cb9
  have cb0 := Joins.cell_of_block bb3 0
  have cb1 := Joins.cell_of_block bb3 1
  have cb2 := Joins.cell_of_block bb3 2
  have cb3 := Joins.cell_of_block bb3 3
  have cb4 := Joins.cell_of_block bb3 4
  have cb5 := Joins.cell_of_block bb3 5
  have cb6 := Joins.cell_of_block bb3 6
  have cb7 := Joins.cell_of_block bb3 7
  have cb8 := Joins.cell_of_block bb3 8
  have cb9 := Joins.cell_of_block bb3 9
  have cs0 := Joins.cell_of_block bs3 0
  have cs1 := Joins.cell_of_block bs3 1
  go_wp2_with fail
  refine (S.Believed b s p _).mono ?_
  rintro e w4 ⟨he, hb4⟩
  unfold rtV at he
  subst he
  have hs4 := hb4.size
  simp only [World.size_alloc] at hs4
  have hF4 : Below w3.heap.size w3 w4 := (below_then (below_alloc _ _) hb4)
  have hB4 := below_then hB3 hF4
  have zb4 : w.heap.size < w4.heap.size := by omega
  have bb4 := (hF4.block (w.heap.size) zb3).trans bb3
  have zs4 : w.heap.size + 1 < w4.heap.size := by omega
  have bs4 := (hF4.block (w.heap.size + 1) zs3).trans bs3
  have zx4 : w3.heap.size < w4.heap.size := by omega
  have bx4 : w4.heap[w3.heap.size]? = some (.cells #[.slice hmA WL.length hmC, .int .i64 (kindI b s)] 50) := (hb4.block (w3.heap.size) (by simp)).trans (alloc_at w3 (.cells #[.slice hmA WL.length hmC, .int .i64 (kindI b s)] 50) (by first | rfl | simp))
  have hl4 := hl3.later hF4
  have hm4 := hm3.later hF4
  clear hb4 hF4 hB3 hs3 zb3 bb3 zs3 bs3 hl3 hm3 cb0 cb1 cb2 cb3 cb4 cb5 cb6 cb7 cb8 cb9 cs0 cs1
  have cb0 := Joins.cell_of_block bb4 0
  have cb1 := Joins.cell_of_block bb4 1
  have cb2 := Joins.cell_of_block bb4 2
  have cb3 := Joins.cell_of_block bb4 3
  have cb4 := Joins.cell_of_block bb4 4
  have cb5 := Joins.cell_of_block bb4 5
  have cb6 := Joins.cell_of_block bb4 6
  have cb7 := Joins.cell_of_block bb4 7
  have cb8 := Joins.cell_of_block bb4 8
  have cb9 := Joins.cell_of_block bb4 9
  have cs0 := Joins.cell_of_block bs4 0
  have cs1 := Joins.cell_of_block bs4 1
  go_wp2_with fail
  refine (Believed3_c b s p _).mono ?_
  rintro e w5 ⟨he, hb5⟩
  unfold rtV at he
  subst he
  have hs5 := hb5.size
  simp only [World.size_alloc] at hs5
  have hF5 : Below w4.heap.size w4 w5 := (below_then (below_alloc _ _) hb5)
  have hB5 := below_then hB4 hF5
  have zb5 : w.heap.size < w5.heap.size := by omega
  have bb5 := (hF5.block (w.heap.size) zb4).trans bb4
  have zs5 : w.heap.size + 1 < w5.heap.size := by omega
  have bs5 := (hF5.block (w.heap.size + 1) zs4).trans bs4
  have zx5 : w3.heap.size < w5.heap.size := by omega
  have bx5 := (hF5.block (w3.heap.size) zx4).trans bx4
  have zp5 : w4.heap.size < w5.heap.size := by omega
  have bp5 : w5.heap[w4.heap.size]? = some (.cells #[.int .i64 (believedR b s p).1.num, .int .i64 (believedR b s p).1.den] 53) := (hb5.block (w4.heap.size) (by simp)).trans (alloc_at w4 (.cells #[.int .i64 (believedR b s p).1.num, .int .i64 (believedR b s p).1.den] 53) (by first | rfl | simp))
  have hl5 := hl4.later hF5
  have hm5 := hm4.later hF5
  clear hb5 hF5 hB4 hs4 zb4 bb4 zs4 bs4 zx4 bx4 hl4 hm4 cb0 cb1 cb2 cb3 cb4 cb5 cb6 cb7 cb8 cb9 cs0 cs1
  have cb0 := Joins.cell_of_block bb5 0
  have cb1 := Joins.cell_of_block bb5 1
  have cb2 := Joins.cell_of_block bb5 2
  have cb3 := Joins.cell_of_block bb5 3
  have cb4 := Joins.cell_of_block bb5 4
  have cb5 := Joins.cell_of_block bb5 5
  have cb6 := Joins.cell_of_block bb5 6
  have cb7 := Joins.cell_of_block bb5 7
  have cb8 := Joins.cell_of_block bb5 8
  have cb9 := Joins.cell_of_block bb5 9
  go_wp2_with fail
  refine (S.Mean b s _).mono ?_
  rintro e w6 ⟨he, hb6⟩
  unfold rtV at he
  subst he
  have hs6 := hb6.size
  simp only [World.size_alloc] at hs6
  have hF6 : Below w5.heap.size w5 w6 := (below_then (below_alloc _ _) hb6)
  have hB6 := below_then hB5 hF6
  have zb6 : w.heap.size < w6.heap.size := by omega
  have bb6 := (hF6.block (w.heap.size) zb5).trans bb5
  have zs6 : w.heap.size + 1 < w6.heap.size := by omega
  have bs6 := (hF6.block (w.heap.size + 1) zs5).trans bs5
  have zx6 : w3.heap.size < w6.heap.size := by omega
  have bx6 := (hF6.block (w3.heap.size) zx5).trans bx5
  have zp6 : w4.heap.size < w6.heap.size := by omega
  have bp6 := (hF6.block (w4.heap.size) zp5).trans bp5
  have zq6 : w5.heap.size < w6.heap.size := by omega
  have bq6 : w6.heap[w5.heap.size]? = some (.cells #[.int .i64 (believedR b s p).1.num, .int .i64 (believedR b s p).1.den] 53) := (hb6.block (w5.heap.size) (by simp)).trans (alloc_at w5 (.cells #[.int .i64 (believedR b s p).1.num, .int .i64 (believedR b s p).1.den] 53) (by first | rfl | simp))
  have hl6 := hl5.later hF6
  have hm6 := hm5.later hF6
  clear hb6 hF6 hB5 hs5 zb5 bb5 zs5 bs5 zx5 bx5 zp5 bp5 hl5 hm5 cb0 cb1 cb2 cb3 cb4 cb5 cb6 cb7 cb8 cb9
  have cb0 := Joins.cell_of_block bb6 0
  have cb1 := Joins.cell_of_block bb6 1
  have cb2 := Joins.cell_of_block bb6 2
  have cb3 := Joins.cell_of_block bb6 3
  have cb4 := Joins.cell_of_block bb6 4
  have cb5 := Joins.cell_of_block bb6 5
  have cb6 := Joins.cell_of_block bb6 6
  have cb7 := Joins.cell_of_block bb6 7
  have cb8 := Joins.cell_of_block bb6 8
  have cb9 := Joins.cell_of_block bb6 9
  go_wp2_with fail
  refine (Mean3_c b s _).mono ?_
  rintro e w7 ⟨he, hb7⟩
  unfold rtV at he
  subst he
  have hs7 := hb7.size
  simp only [World.size_alloc] at hs7
  have hF7 : Below w6.heap.size w6 w7 := (below_then (below_alloc _ _) hb7)
  have hB7 := below_then hB6 hF7
  have zb7 : w.heap.size < w7.heap.size := by omega
  have bb7 := (hF7.block (w.heap.size) zb6).trans bb6
  have zs7 : w.heap.size + 1 < w7.heap.size := by omega
  have bs7 := (hF7.block (w.heap.size + 1) zs6).trans bs6
  have zx7 : w3.heap.size < w7.heap.size := by omega
  have bx7 := (hF7.block (w3.heap.size) zx6).trans bx6
  have zp7 : w4.heap.size < w7.heap.size := by omega
  have bp7 := (hF7.block (w4.heap.size) zp6).trans bp6
  have zq7 : w5.heap.size < w7.heap.size := by omega
  have bq7 := (hF7.block (w5.heap.size) zq6).trans bq6
  have zm7 : w6.heap.size < w7.heap.size := by omega
  have bm7 : w7.heap[w6.heap.size]? = some (.cells #[.int .i64 (meanR b s).1.num, .int .i64 (meanR b s).1.den] 53) := (hb7.block (w6.heap.size) (by simp)).trans (alloc_at w6 (.cells #[.int .i64 (meanR b s).1.num, .int .i64 (meanR b s).1.den] 53) (by first | rfl | simp))
  have hl7 := hl6.later hF7
  have hm7 := hm6.later hF7
  clear hb7 hF7 hB6 hs6 zb6 bb6 zs6 bs6 zx6 bx6 zp6 bp6 zq6 bq6 hl6 hm6 cb0 cb1 cb2 cb3 cb4 cb5 cb6 cb7 cb8 cb9
  have cb0 := Joins.cell_of_block bb7 0
  have cb1 := Joins.cell_of_block bb7 1
  have cb2 := Joins.cell_of_block bb7 2
  have cb3 := Joins.cell_of_block bb7 3
  have cb4 := Joins.cell_of_block bb7 4
  have cb5 := Joins.cell_of_block bb7 5
  have cb6 := Joins.cell_of_block bb7 6
  have cb7 := Joins.cell_of_block bb7 7
  have cb8 := Joins.cell_of_block bb7 8
  have cb9 := Joins.cell_of_block bb7 9
  go_wp2_with fail
  refine (S.Next b s _).mono ?_
  rintro e w8 ⟨he, hb8⟩
  unfold rtV at he
  subst he
  have hs8 := hb8.size
  simp only [World.size_alloc] at hs8
  have hF8 : Below w7.heap.size w7 w8 := (below_then (below_alloc _ _) hb8)
  have hB8 := below_then hB7 hF8
  have zb8 : w.heap.size < w8.heap.size := by omega
  have bb8 := (hF8.block (w.heap.size) zb7).trans bb7
  have zs8 : w.heap.size + 1 < w8.heap.size := by omega
  have bs8 := (hF8.block (w.heap.size + 1) zs7).trans bs7
  have zx8 : w3.heap.size < w8.heap.size := by omega
  have bx8 := (hF8.block (w3.heap.size) zx7).trans bx7
  have zp8 : w4.heap.size < w8.heap.size := by omega
  have bp8 := (hF8.block (w4.heap.size) zp7).trans bp7
  have zq8 : w5.heap.size < w8.heap.size := by omega
  have bq8 := (hF8.block (w5.heap.size) zq7).trans bq7
  have zm8 : w6.heap.size < w8.heap.size := by omega
  have bm8 := (hF8.block (w6.heap.size) zm7).trans bm7
  have zn8 : w7.heap.size < w8.heap.size := by omega
  have bn8 : w8.heap[w7.heap.size]? = some (.cells #[.int .i64 (meanR b s).1.num, .int .i64 (meanR b s).1.den] 53) := (hb8.block (w7.heap.size) (by simp)).trans (alloc_at w7 (.cells #[.int .i64 (meanR b s).1.num, .int .i64 (meanR b s).1.den] 53) (by first | rfl | simp))
  have hl8 := hl7.later hF8
  have hm8 := hm7.later hF8
  clear hb8 hF8 hB7 hs7 zb7 bb7 zs7 bs7 zx7 bx7 zp7 bp7 zq7 bq7 zm7 bm7 hl7 hm7 cb0 cb1 cb2 cb3 cb4 cb5 cb6 cb7 cb8 cb9
  have cb0 := Joins.cell_of_block bb8 0
  have cb1 := Joins.cell_of_block bb8 1
  have cb2 := Joins.cell_of_block bb8 2
  have cb3 := Joins.cell_of_block bb8 3
  have cb4 := Joins.cell_of_block bb8 4
  have cb5 := Joins.cell_of_block bb8 5
  have cb6 := Joins.cell_of_block bb8 6
  have cb7 := Joins.cell_of_block bb8 7
  have cb8 := Joins.cell_of_block bb8 8
  have cb9 := Joins.cell_of_block bb8 9
  go_wp2_with fail
  refine (Next3_c b s _).mono ?_
  rintro e w9 ⟨he, hb9⟩
  unfold rtV at he
  subst he
  have hs9 := hb9.size
  simp only [World.size_alloc] at hs9
  have hF9 : Below w8.heap.size w8 w9 := (below_then (below_alloc _ _) hb9)
  have hB9 := below_then hB8 hF9
  have zb9 : w.heap.size < w9.heap.size := by omega
  have bb9 := (hF9.block (w.heap.size) zb8).trans bb8
  have zs9 : w.heap.size + 1 < w9.heap.size := by omega
  have bs9 := (hF9.block (w.heap.size + 1) zs8).trans bs8
  have zx9 : w3.heap.size < w9.heap.size := by omega
  have bx9 := (hF9.block (w3.heap.size) zx8).trans bx8
  have zp9 : w4.heap.size < w9.heap.size := by omega
  have bp9 := (hF9.block (w4.heap.size) zp8).trans bp8
  have zq9 : w5.heap.size < w9.heap.size := by omega
  have bq9 := (hF9.block (w5.heap.size) zq8).trans bq8
  have zm9 : w6.heap.size < w9.heap.size := by omega
  have bm9 := (hF9.block (w6.heap.size) zm8).trans bm8
  have zn9 : w7.heap.size < w9.heap.size := by omega
  have bn9 := (hF9.block (w7.heap.size) zn8).trans bn8
  have zu9 : w8.heap.size < w9.heap.size := by omega
  have bu9 : w9.heap[w8.heap.size]? = some (.cells #[.int .i64 (nextR b s).1.num, .int .i64 (nextR b s).1.den] 53) := (hb9.block (w8.heap.size) (by simp)).trans (alloc_at w8 (.cells #[.int .i64 (nextR b s).1.num, .int .i64 (nextR b s).1.den] 53) (by first | rfl | simp))
  have hl9 := hl8.later hF9
  have hm9 := hm8.later hF9
  clear hb9 hF9 hB8 hs8 zb8 bb8 zs8 bs8 zx8 bx8 zp8 bp8 zq8 bq8 zm8 bm8 zn8 bn8 hl8 hm8 cb0 cb1 cb2 cb3 cb4 cb5 cb6 cb7 cb8 cb9
  have cx0 := Joins.cell_of_block bx9 0
  have cx1 := Joins.cell_of_block bx9 1
  go_wp2_with fail
  refine (sameI_t (hl9.alloc (.cells #[.int .i64 (nextR b s).1.num, .int .i64 (nextR b s).1.den] 53)) (hm9.alloc (.cells #[.int .i64 (nextR b s).1.num, .int .i64 (nextR b s).1.den] 53)) (sameI_r _)).mono ?_
  rintro e w10 ⟨he, hb10⟩
  subst he
  have hs10 := hb10.size
  simp only [World.size_alloc] at hs10
  have hF10 : Below w9.heap.size w9 w10 := (below_then (below_alloc _ _) hb10)
  have hB10 := below_then hB9 hF10
  have zb10 : w.heap.size < w10.heap.size := by omega
  have bb10 := (hF10.block (w.heap.size) zb9).trans bb9
  have zs10 : w.heap.size + 1 < w10.heap.size := by omega
  have bs10 := (hF10.block (w.heap.size + 1) zs9).trans bs9
  have zx10 : w3.heap.size < w10.heap.size := by omega
  have bx10 := (hF10.block (w3.heap.size) zx9).trans bx9
  have zp10 : w4.heap.size < w10.heap.size := by omega
  have bp10 := (hF10.block (w4.heap.size) zp9).trans bp9
  have zq10 : w5.heap.size < w10.heap.size := by omega
  have bq10 := (hF10.block (w5.heap.size) zq9).trans bq9
  have zm10 : w6.heap.size < w10.heap.size := by omega
  have bm10 := (hF10.block (w6.heap.size) zm9).trans bm9
  have zn10 : w7.heap.size < w10.heap.size := by omega
  have bn10 := (hF10.block (w7.heap.size) zn9).trans bn9
  have zu10 : w8.heap.size < w10.heap.size := by omega
  have bu10 := (hF10.block (w8.heap.size) zu9).trans bu9
  have zv10 : w9.heap.size < w10.heap.size := by omega
  have bv10 : w10.heap[w9.heap.size]? = some (.cells #[.int .i64 (nextR b s).1.num, .int .i64 (nextR b s).1.den] 53) := (hb10.block (w9.heap.size) (by simp)).trans (alloc_at w9 (.cells #[.int .i64 (nextR b s).1.num, .int .i64 (nextR b s).1.den] 53) (by first | rfl | simp))
  have hl10 := hl9.later hF10
  have hm10 := hm9.later hF10
  clear hb10 hF10 hB9 hs9 zb9 bb9 zs9 bs9 zx9 bx9 zp9 bp9 zq9 bq9 zm9 bm9 zn9 bn9 zu9 bu9 hl9 hm9 cx0 cx1
  have cx0 := Joins.cell_of_block bx10 0
  have cx1 := Joins.cell_of_block bx10 1
  have cp0 := Joins.cell_of_block bp10 0
  have cp1 := Joins.cell_of_block bp10 1
  have cq0 := Joins.cell_of_block bq10 0
  have cq1 := Joins.cell_of_block bq10 1
  have cm0 := Joins.cell_of_block bm10 0
  have cm1 := Joins.cell_of_block bm10 1
  have cn0 := Joins.cell_of_block bn10 0
  have cn1 := Joins.cell_of_block bn10 1
  have cu0 := Joins.cell_of_block bu10 0
  have cu1 := Joins.cell_of_block bu10 1
  have cv0 := Joins.cell_of_block bv10 0
  have cv1 := Joins.cell_of_block bv10 1
  go_wp2_with fail
  go_ret
  exact ⟨rfl, below_then hB10 (Below.refl _ _)⟩
set_option maxHeartbeats 3200000 in
set_option maxRecDepth 100000 in
theorem SampleTogether_w (S : Sam) (l : List Bt) (s : Int) (p : Sp) (v : Value) (w : World) (hv0 : Bts w w.heap.size v l) : Calls Try.prog 18 #[v, .int .i64 s, spV p] w fun e w' => e = .returned (.bool true) ∧ Below w.heap.size w w' := by
  have eqRt := Try.eqRt
  have eqSp := Try.eqSp
  have eqTr := Try.eqTr
  have eqBt := Try.eqBt
  obtain ⟨A, cap, rfl⟩ := hv0.form
  unfold spV
  go_enter Try.func18, Try.ntmps18
  go_wp2_with fail
  refine (head_c S _).mono ?_
  rintro e w1 ⟨he, hb1⟩
  subst he
  have hs1 := hb1.size
  simp only [World.size_alloc] at hs1
  have hF1 : Below w.heap.size w w1 := (below_then (below_alloc _ _) hb1)
  have hB1 := hF1
  have zs1 : w.heap.size < w1.heap.size := by omega
  have bs1 : w1.heap[w.heap.size]? = some (.cells #[.int .i64 p.lo, .int .i64 p.hi] 31) := (hb1.block (w.heap.size) (by simp)).trans (alloc_at w (.cells #[.int .i64 p.lo, .int .i64 p.hi] 31) (by first | rfl | simp))
  have hv1 := hv0.later hF1
  clear hb1 hF1  hv0
  by_cases h1 : 16 < l.length
  · have d1 : decide ((l.length : Int) > 16) = true := decide_eq_true (by omega)
    clear h1
    go_wp2_with fail
    go_ret
    exact ⟨rfl, hB1⟩
  · have d1 : decide ((l.length : Int) > 16) = false := decide_eq_false (by omega)
    clear h1
    have cs0 := Joins.cell_of_block bs1 0
    have cs1 := Joins.cell_of_block bs1 1
    go_wp2_with fail
    refine (S.Together l s p _ _ hv1).mono ?_
    rintro e w2 ⟨hlu, he, hl2, hb2⟩
    obtain ⟨hlA, hlC, rfl⟩ := hl2.form
    subst he
    have hs2 := hb2.size
    have hF2 : Below w1.heap.size w1 w2 := hb2
    have hB2 := below_then hB1 hF2
    have zs2 : w.heap.size < w2.heap.size := by omega
    have bs2 := (hF2.block (w.heap.size) zs1).trans bs1
    have hv2 := hv1.later hF2
    clear hb2 hF2 hB1 hs1 zs1 bs1 hv1 cs0 cs1
    have cs0 := Joins.cell_of_block bs2 0
    have cs1 := Joins.cell_of_block bs2 1
    go_wp2_with fail
    refine (Together3_c l s p _ _ hv2).mono ?_
    rintro e w3 ⟨hmu, he, hm3, hb3⟩
    obtain ⟨hmA, hmC, rfl⟩ := hm3.form
    subst he
    have hs3 := hb3.size
    have hF3 : Below w2.heap.size w2 w3 := hb3
    have hB3 := below_then hB2 hF3
    have zs3 : w.heap.size < w3.heap.size := by omega
    have bs3 := (hF3.block (w.heap.size) zs2).trans bs2
    have hv3 := hv2.later hF3
    have hl3 := hl2.later hF3
    clear hb3 hF3 hB2 hs2 zs2 bs2 hv2 hl2 cs0 cs1
    go_wp2_with fail
    refine (sameS_t (hl3.alloc (.cells #[.slice hmA (togetherL l s p).length hmC, .int .i64 (togetherE l s p)] 104)) (hm3.alloc (.cells #[.slice hmA (togetherL l s p).length hmC, .int .i64 (togetherE l s p)] 104)) (sameS_r _)).mono ?_
    rintro e w4 ⟨he, hb4⟩
    subst he
    have hs4 := hb4.size
    simp only [World.size_alloc] at hs4
    have hF4 : Below w3.heap.size w3 w4 := (below_then (below_alloc _ _) hb4)
    have hB4 := below_then hB3 hF4
    have zs4 : w.heap.size < w4.heap.size := by omega
    have bs4 := (hF4.block (w.heap.size) zs3).trans bs3
    have zx4 : w3.heap.size < w4.heap.size := by omega
    have bx4 : w4.heap[w3.heap.size]? = some (.cells #[.slice hmA (togetherL l s p).length hmC, .int .i64 (togetherE l s p)] 104) := (hb4.block (w3.heap.size) (by simp)).trans (alloc_at w3 (.cells #[.slice hmA (togetherL l s p).length hmC, .int .i64 (togetherE l s p)] 104) (by first | rfl | simp))
    have hv4 := hv3.later hF4
    have hl4 := hl3.later hF4
    have hm4 := hm3.later hF4
    clear hb4 hF4 hB3 hs3 zs3 bs3 hv3 hl3 hm3
    have cx0 := Joins.cell_of_block bx4 0
    have cx1 := Joins.cell_of_block bx4 1
    go_wp2_with fail
    go_ret
    exact ⟨rfl, below_then hB4 (Below.refl _ _)⟩
end Go.Proofs.Ytaaeipjnhjgjdaa
/- Laws of layer 3 whose last region draws its order. -/
namespace Go.Proofs.Ytaaeipjnhjgjdaa
open Go.RowKit

set_option maxHeartbeats 3200000 in
set_option maxRecDepth 100000 in
theorem SampleShortest_w (S : Sam) (b : Bt) (s : Int) (r : Rt) (p : Sp) (w : World) : Calls Try.prog 15 #[btV b, .int .i64 s, rtV r, spV p] w fun e w' => e = .returned (.bool true) ∧ Below w.heap.size w w' := by
  have eqRt := Try.eqRt
  have eqSp := Try.eqSp
  have eqTr := Try.eqTr
  have eqBt := Try.eqBt
  unfold btV rtV spV
  go_enter Try.func15, Try.ntmps15
  go_wp2_with fail
  refine (head_c S _).mono ?_
  rintro e w1 ⟨he, hb1⟩
  subst he
  have hs1 := hb1.size
  simp only [World.size_alloc] at hs1
  have hF1 : Below w.heap.size w w1 := (below_then (below_alloc _ _) (below_then (below_alloc _ _) (below_then (below_alloc _ _) hb1)))
  have hB1 := hF1
  have zb1 : w.heap.size < w1.heap.size := by omega
  have bb1 : w1.heap[w.heap.size]? = some (.cells #[.int .i64 b.n, .int .i64 b.s.a, .int .i64 b.s.b, .int .i64 b.s.c, .int .i64 b.k0.lo, .int .i64 b.k0.hi, .int .i64 b.k1.lo, .int .i64 b.k1.hi, .int .i64 b.k2.lo, .int .i64 b.k2.hi] 34) := (hb1.block (w.heap.size) (by simp <;> omega)).trans ((Below.heap_alloc _ _ _ (by simp <;> omega)).trans ((Below.heap_alloc _ _ _ (by simp)).trans (alloc_at w (.cells #[.int .i64 b.n, .int .i64 b.s.a, .int .i64 b.s.b, .int .i64 b.s.c, .int .i64 b.k0.lo, .int .i64 b.k0.hi, .int .i64 b.k1.lo, .int .i64 b.k1.hi, .int .i64 b.k2.lo, .int .i64 b.k2.hi] 34) (by first | rfl | simp))))
  have zr1 : w.heap.size + 1 < w1.heap.size := by omega
  have br1 : w1.heap[w.heap.size + 1]? = some (.cells #[.int .i64 r.num, .int .i64 r.den] 53) := (hb1.block (w.heap.size + 1) (by simp <;> omega)).trans ((Below.heap_alloc _ _ _ (by simp)).trans (alloc_at (w.alloc (.cells #[.int .i64 b.n, .int .i64 b.s.a, .int .i64 b.s.b, .int .i64 b.s.c, .int .i64 b.k0.lo, .int .i64 b.k0.hi, .int .i64 b.k1.lo, .int .i64 b.k1.hi, .int .i64 b.k2.lo, .int .i64 b.k2.hi] 34)) (.cells #[.int .i64 r.num, .int .i64 r.den] 53) (by first | rfl | simp)))
  have zs1 : w.heap.size + 1 + 1 < w1.heap.size := by omega
  have bs1 : w1.heap[w.heap.size + 1 + 1]? = some (.cells #[.int .i64 p.lo, .int .i64 p.hi] 31) := (hb1.block (w.heap.size + 1 + 1) (by simp)).trans (alloc_at ((w.alloc (.cells #[.int .i64 b.n, .int .i64 b.s.a, .int .i64 b.s.b, .int .i64 b.s.c, .int .i64 b.k0.lo, .int .i64 b.k0.hi, .int .i64 b.k1.lo, .int .i64 b.k1.hi, .int .i64 b.k2.lo, .int .i64 b.k2.hi] 34)).alloc (.cells #[.int .i64 r.num, .int .i64 r.den] 53)) (.cells #[.int .i64 p.lo, .int .i64 p.hi] 31) (by first | rfl | simp))
  clear hb1 hF1
  have cb0 := Joins.cell_of_block bb1 0
  have cb1 := Joins.cell_of_block bb1 1
  have cb2 := Joins.cell_of_block bb1 2
  have cb3 := Joins.cell_of_block bb1 3
  have cb4 := Joins.cell_of_block bb1 4
  have cb5 := Joins.cell_of_block bb1 5
  have cb6 := Joins.cell_of_block bb1 6
  have cb7 := Joins.cell_of_block bb1 7
  have cb8 := Joins.cell_of_block bb1 8
  have cb9 := Joins.cell_of_block bb1 9
  have cr0 := Joins.cell_of_block br1 0
  have cr1 := Joins.cell_of_block br1 1
  go_wp2_with fail
  refine (S.Shortest b s r _).mono ?_
  rintro e w2 ⟨he, hb2⟩
  unfold spV at he
  subst he
  have hs2 := hb2.size
  have hF2 : Below w1.heap.size w1 w2 := hb2
  have hB2 := below_then hB1 hF2
  have zb2 : w.heap.size < w2.heap.size := by omega
  have bb2 := (hF2.block (w.heap.size) zb1).trans bb1
  have zr2 : w.heap.size + 1 < w2.heap.size := by omega
  have br2 := (hF2.block (w.heap.size + 1) zr1).trans br1
  have zs2 : w.heap.size + 1 + 1 < w2.heap.size := by omega
  have bs2 := (hF2.block (w.heap.size + 1 + 1) zs1).trans bs1
  clear hb2 hF2 hB1 hs1 zb1 bb1 zr1 br1 zs1 bs1 cb0 cb1 cb2 cb3 cb4 cb5 cb6 cb7 cb8 cb9 cr0 cr1
  have cb0 := Joins.cell_of_block bb2 0
  have cb1 := Joins.cell_of_block bb2 1
  have cb2 := Joins.cell_of_block bb2 2
  have cb3 := Joins.cell_of_block bb2 3
  have cb4 := Joins.cell_of_block bb2 4
  have cb5 := Joins.cell_of_block bb2 5
  have cb6 := Joins.cell_of_block bb2 6
  have cb7 := Joins.cell_of_block bb2 7
  have cb8 := Joins.cell_of_block bb2 8
  have cb9 := Joins.cell_of_block bb2 9
  have cr0 := Joins.cell_of_block br2 0
  have cr1 := Joins.cell_of_block br2 1
  go_wp2_with fail
  refine (Shortest3_c b s r _).mono ?_
  rintro e w3 ⟨he, hb3⟩
  unfold spV at he
  subst he
  have hs3 := hb3.size
  simp only [World.size_alloc] at hs3
  have hF3 : Below w2.heap.size w2 w3 := (below_then (below_alloc _ _) hb3)
  have hB3 := below_then hB2 hF3
  have zb3 : w.heap.size < w3.heap.size := by omega
  have bb3 := (hF3.block (w.heap.size) zb2).trans bb2
  have zr3 : w.heap.size + 1 < w3.heap.size := by omega
  have br3 := (hF3.block (w.heap.size + 1) zr2).trans br2
  have zs3 : w.heap.size + 1 + 1 < w3.heap.size := by omega
  have bs3 := (hF3.block (w.heap.size + 1 + 1) zs2).trans bs2
  have zx3 : w2.heap.size < w3.heap.size := by omega
  have bx3 : w3.heap[w2.heap.size]? = some (.cells #[.int .i64 (shortestR b s r).1.lo, .int .i64 (shortestR b s r).1.hi] 31) := (hb3.block (w2.heap.size) (by simp)).trans (alloc_at w2 (.cells #[.int .i64 (shortestR b s r).1.lo, .int .i64 (shortestR b s r).1.hi] 31) (by first | rfl | simp))
  clear hb3 hF3 hB2 hs2 zb2 bb2 zr2 br2 zs2 bs2 cb0 cb1 cb2 cb3 cb4 cb5 cb6 cb7 cb8 cb9 cr0 cr1
  go_wp2_with fail
  obtain ⟨W, hW⟩ : ∃ W, W = w3.alloc (.cells #[.int .i64 (shortestR b s r).1.lo, .int .i64 (shortestR b s r).1.hi] 31) := ⟨_, rfl⟩
  rw [← hW]
  have hBW : Below w3.heap.size w3 W := by rw [hW]; exact below_alloc _ _
  have hsW : W.heap.size = w3.heap.size + 1 := by rw [hW]; simp
  have zbW : w.heap.size < W.heap.size := by omega
  have bbW := (hBW.block (w.heap.size) zb3).trans bb3
  have zrW : w.heap.size + 1 < W.heap.size := by omega
  have brW := (hBW.block (w.heap.size + 1) zr3).trans br3
  have zsW : w.heap.size + 1 + 1 < W.heap.size := by omega
  have bsW := (hBW.block (w.heap.size + 1 + 1) zs3).trans bs3
  have zxW : w2.heap.size < W.heap.size := by omega
  have bxW := (hBW.block (w2.heap.size) zx3).trans bx3
  have zyW : w3.heap.size < W.heap.size := by omega
  have byW : W.heap[w3.heap.size]? = some (.cells #[.int .i64 (shortestR b s r).1.lo, .int .i64 (shortestR b s r).1.hi] 31) := by rw [hW]; exact heap_alloc_new _ _
  have cb0 := Joins.cell_of_block bbW 0
  have cb1 := Joins.cell_of_block bbW 1
  have cb2 := Joins.cell_of_block bbW 2
  have cb3 := Joins.cell_of_block bbW 3
  have cb4 := Joins.cell_of_block bbW 4
  have cb5 := Joins.cell_of_block bbW 5
  have cb6 := Joins.cell_of_block bbW 6
  have cb7 := Joins.cell_of_block bbW 7
  have cb8 := Joins.cell_of_block bbW 8
  have cb9 := Joins.cell_of_block bbW 9
  have cr0 := Joins.cell_of_block brW 0
  have cr1 := Joins.cell_of_block brW 1
  have cs0 := Joins.cell_of_block bsW 0
  have cs1 := Joins.cell_of_block bsW 1
  have cx0 := Joins.cell_of_block bxW 0
  have cx1 := Joins.cell_of_block bxW 1
  have cy0 := Joins.cell_of_block byW 0
  have cy1 := Joins.cell_of_block byW 1
  clear hW hsW bb3 zb3 br3 zr3 bs3 zs3 bx3 zx3
  refine wp_region_grown (by kernel_rfl) (by kernel_rfl) fun hcg => ?_
  repeat (go_big_quiet_step (first | (go_at_call 62; exact Calls.grown (S.CheckShortest b s r p _)) | (go_at_call 63; exact Calls.grown (CheckShortest3_c b s r p _))))
  refine wpQuiet_nil ?_
  intro _ hw'
  obtain ⟨g, hw''⟩ := hw'
  subst hw''
  go_wp2
  go_ret
  exact ⟨rfl, below_then hB3 (below_then hBW g.b)⟩
set_option maxHeartbeats 3200000 in
set_option maxRecDepth 100000 in
theorem SampleBatches_w (S : Sam) (b : Bt) (s : Int) (w : World) : Calls Try.prog 4 #[btV b, .int .i64 s] w fun e w' => e = .returned (.bool true) ∧ Below w.heap.size w w' := by
  have eqRt := Try.eqRt
  have eqSp := Try.eqSp
  have eqTr := Try.eqTr
  have eqBt := Try.eqBt
  have q1 := fun w => S.Wholes b w
  have q2 := fun w => AllWholes3_c b w
  generalize (if checkB b = 0 then wholesL b else []) = WL at q1 q2
  have Q1 := Lib.hid q1
  have Q2 := Lib.hid q2
  clear q1 q2
  unfold btV at *
  go_enter Try.func4, Try.ntmps4
  go_wp2_with fail
  refine (head_c S _).mono ?_
  rintro e w1 ⟨he, hb1⟩
  subst he
  have hs1 := hb1.size
  simp only [World.size_alloc] at hs1
  have hF1 : Below w.heap.size w w1 := (below_then (below_alloc _ _) hb1)
  have hB1 := hF1
  have zb1 : w.heap.size < w1.heap.size := by omega
  have bb1 : w1.heap[w.heap.size]? = some (.cells #[.int .i64 b.n, .int .i64 b.s.a, .int .i64 b.s.b, .int .i64 b.s.c, .int .i64 b.k0.lo, .int .i64 b.k0.hi, .int .i64 b.k1.lo, .int .i64 b.k1.hi, .int .i64 b.k2.lo, .int .i64 b.k2.hi] 34) := (hb1.block (w.heap.size) (by simp)).trans (alloc_at w (.cells #[.int .i64 b.n, .int .i64 b.s.a, .int .i64 b.s.b, .int .i64 b.s.c, .int .i64 b.k0.lo, .int .i64 b.k0.hi, .int .i64 b.k1.lo, .int .i64 b.k1.hi, .int .i64 b.k2.lo, .int .i64 b.k2.hi] 34) (by first | rfl | simp))
  clear hb1 hF1
  have cb0 := Joins.cell_of_block bb1 0
  have cb1 := Joins.cell_of_block bb1 1
  have cb2 := Joins.cell_of_block bb1 2
  have cb3 := Joins.cell_of_block bb1 3
  have cb4 := Joins.cell_of_block bb1 4
  have cb5 := Joins.cell_of_block bb1 5
  have cb6 := Joins.cell_of_block bb1 6
  have cb7 := Joins.cell_of_block bb1 7
  have cb8 := Joins.cell_of_block bb1 8
  have cb9 := Joins.cell_of_block bb1 9
  go_wp2_with fail
  refine (Q1.out _).mono ?_
  rintro e w2 ⟨hlu, he, hl2, hb2⟩
  obtain ⟨hlA, hlC, rfl⟩ := hl2.form
  subst he
  have hs2 := hb2.size
  have hF2 : Below w1.heap.size w1 w2 := hb2
  have hB2 := below_then hB1 hF2
  have zb2 : w.heap.size < w2.heap.size := by omega
  have bb2 := (hF2.block (w.heap.size) zb1).trans bb1
  clear hb2 hF2 hB1 hs1 zb1 bb1 cb0 cb1 cb2 cb3 cb4 cb5 cb6 cb7 cb8 cb9
  have cb0 := Joins.cell_of_block bb2 0
  have cb1 := Joins.cell_of_block bb2 1
  have cb2 := Joins.cell_of_block bb2 2
  have cb3 := Joins.cell_of_block bb2 3
  have cb4 := Joins.cell_of_block bb2 4
  have cb5 := Joins.cell_of_block bb2 5
  have cb6 := Joins.cell_of_block bb2 6
  have cb7 := Joins.cell_of_block bb2 7
  have cb8 := Joins.cell_of_block bb2 8
  have cb9 := Joins.cell_of_block bb2 9
  go_wp2_with fail
  refine (Q2.out _).mono ?_
  rintro e w3 ⟨hmu, he, hm3, hb3⟩
  obtain ⟨hmA, hmC, rfl⟩ := hm3.form
  subst he
  have hs3 := hb3.size
  have hF3 : Below w2.heap.size w2 w3 := hb3
  have hB3 := below_then hB2 hF3
  have zb3 : w.heap.size < w3.heap.size := by omega
  have bb3 := (hF3.block (w.heap.size) zb2).trans bb2
  have hl3 := hl2.later hF3
  clear hb3 hF3 hB2 hs2 zb2 bb2 hl2 cb0 cb1 cb2 cb3 cb4 cb5 cb6 cb7 cb8 cb9
  have cb0 := Joins.cell_of_block bb3 0
  have cb1 := Joins.cell_of_block bb3 1
  have cb2 := Joins.cell_of_block bb3 2
  have cb3 := Joins.cell_of_block bb3 3
  have cb4 := Joins.cell_of_block bb3 4
  have cb5 := Joins.cell_of_block bb3 5
  have cb6 := Joins.cell_of_block bb3 6
  have cb7 := Joins.cell_of_block bb3 7
  have cb8 := Joins.cell_of_block bb3 8
  have cb9 := Joins.cell_of_block bb3 9
  go_wp2_with fail
  refine (S.Ends b s _).mono ?_
  rintro e w4 ⟨he, hb4⟩
  unfold spV at he
  subst he
  have hs4 := hb4.size
  simp only [World.size_alloc] at hs4
  have hF4 : Below w3.heap.size w3 w4 := (below_then (below_alloc _ _) hb4)
  have hB4 := below_then hB3 hF4
  have zb4 : w.heap.size < w4.heap.size := by omega
  have bb4 := (hF4.block (w.heap.size) zb3).trans bb3
  have zx4 : w3.heap.size < w4.heap.size := by omega
  have bx4 : w4.heap[w3.heap.size]? = some (.cells #[.slice hmA WL.length hmC, .int .i64 (checkB b)] 39) := (hb4.block (w3.heap.size) (by simp)).trans (alloc_at w3 (.cells #[.slice hmA WL.length hmC, .int .i64 (checkB b)] 39) (by first | rfl | simp))
  have hl4 := hl3.later hF4
  have hm4 := hm3.later hF4
  clear hb4 hF4 hB3 hs3 zb3 bb3 hl3 hm3 cb0 cb1 cb2 cb3 cb4 cb5 cb6 cb7 cb8 cb9
  have cb0 := Joins.cell_of_block bb4 0
  have cb1 := Joins.cell_of_block bb4 1
  have cb2 := Joins.cell_of_block bb4 2
  have cb3 := Joins.cell_of_block bb4 3
  have cb4 := Joins.cell_of_block bb4 4
  have cb5 := Joins.cell_of_block bb4 5
  have cb6 := Joins.cell_of_block bb4 6
  have cb7 := Joins.cell_of_block bb4 7
  have cb8 := Joins.cell_of_block bb4 8
  have cb9 := Joins.cell_of_block bb4 9
  go_wp2_with fail
  refine (Ends3_c b s _).mono ?_
  rintro e w5 ⟨he, hb5⟩
  unfold spV at he
  subst he
  have hs5 := hb5.size
  simp only [World.size_alloc] at hs5
  have hF5 : Below w4.heap.size w4 w5 := (below_then (below_alloc _ _) hb5)
  have hB5 := below_then hB4 hF5
  have zb5 : w.heap.size < w5.heap.size := by omega
  have bb5 := (hF5.block (w.heap.size) zb4).trans bb4
  have zx5 : w3.heap.size < w5.heap.size := by omega
  have bx5 := (hF5.block (w3.heap.size) zx4).trans bx4
  have zs5 : w4.heap.size < w5.heap.size := by omega
  have bs5 : w5.heap[w4.heap.size]? = some (.cells #[.int .i64 (endsR b s).1.lo, .int .i64 (endsR b s).1.hi] 31) := (hb5.block (w4.heap.size) (by simp)).trans (alloc_at w4 (.cells #[.int .i64 (endsR b s).1.lo, .int .i64 (endsR b s).1.hi] 31) (by first | rfl | simp))
  have hl5 := hl4.later hF5
  have hm5 := hm4.later hF5
  clear hb5 hF5 hB4 hs4 zb4 bb4 zx4 bx4 hl4 hm4 cb0 cb1 cb2 cb3 cb4 cb5 cb6 cb7 cb8 cb9
  have cx0 := Joins.cell_of_block bx5 0
  have cx1 := Joins.cell_of_block bx5 1
  go_wp2_with fail
  refine (sameK_t (hl5.alloc (.cells #[.int .i64 (endsR b s).1.lo, .int .i64 (endsR b s).1.hi] 31)) (hm5.alloc (.cells #[.int .i64 (endsR b s).1.lo, .int .i64 (endsR b s).1.hi] 31)) (sameK_r _)).mono ?_
  rintro e w6 ⟨he, hb6⟩
  subst he
  have hs6 := hb6.size
  simp only [World.size_alloc] at hs6
  have hF6 : Below w5.heap.size w5 w6 := (below_then (below_alloc _ _) hb6)
  have hB6 := below_then hB5 hF6
  have zb6 : w.heap.size < w6.heap.size := by omega
  have bb6 := (hF6.block (w.heap.size) zb5).trans bb5
  have zx6 : w3.heap.size < w6.heap.size := by omega
  have bx6 := (hF6.block (w3.heap.size) zx5).trans bx5
  have zs6 : w4.heap.size < w6.heap.size := by omega
  have bs6 := (hF6.block (w4.heap.size) zs5).trans bs5
  have zt6 : w5.heap.size < w6.heap.size := by omega
  have bt6 : w6.heap[w5.heap.size]? = some (.cells #[.int .i64 (endsR b s).1.lo, .int .i64 (endsR b s).1.hi] 31) := (hb6.block (w5.heap.size) (by simp)).trans (alloc_at w5 (.cells #[.int .i64 (endsR b s).1.lo, .int .i64 (endsR b s).1.hi] 31) (by first | rfl | simp))
  have hl6 := hl5.later hF6
  have hm6 := hm5.later hF6
  clear hb6 hF6 hB5 hs5 zb5 bb5 zx5 bx5 zs5 bs5 hl5 hm5 cx0 cx1
  have cb0 := Joins.cell_of_block bb6 0
  have cb1 := Joins.cell_of_block bb6 1
  have cb2 := Joins.cell_of_block bb6 2
  have cb3 := Joins.cell_of_block bb6 3
  have cb4 := Joins.cell_of_block bb6 4
  have cb5 := Joins.cell_of_block bb6 5
  have cb6 := Joins.cell_of_block bb6 6
  have cb7 := Joins.cell_of_block bb6 7
  have cb8 := Joins.cell_of_block bb6 8
  have cb9 := Joins.cell_of_block bb6 9
  have cx0 := Joins.cell_of_block bx6 0
  have cx1 := Joins.cell_of_block bx6 1
  have cs0 := Joins.cell_of_block bs6 0
  have cs1 := Joins.cell_of_block bs6 1
  have ct0 := Joins.cell_of_block bt6 0
  have ct1 := Joins.cell_of_block bt6 1
  go_wp2_with fail
  refine wp_region_grown (by kernel_rfl) (by kernel_rfl) fun hcg => ?_
  repeat (go_big_quiet_step (first | (go_at_call 30; exact Calls.grown (S.Check b _)) | (go_at_call 31; exact Calls.grown (Check3_c b _))))
  refine wpQuiet_nil ?_
  intro _ hw'
  obtain ⟨g, hw''⟩ := hw'
  subst hw''
  go_wp2
  go_ret
  exact ⟨rfl, below_then hB6 g.b⟩
end Go.Proofs.Ytaaeipjnhjgjdaa
