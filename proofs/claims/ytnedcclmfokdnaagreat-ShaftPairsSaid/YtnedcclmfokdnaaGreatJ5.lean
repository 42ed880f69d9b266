/- Texts joined: RefD RefE RefF. -/
import Derived.Test.YtnedcclmfokdnaaGreatJ3
import Derived.Test.YtnedcclmfokdnaaGreatJ4
import Derived.Test.YtnedcclmfokdnaaGreatJ2
namespace Go.Proofs.YtnedcclmfokdnaaGreat
open Go.RowKit
theorem Tryz.infoTie : (Tryz.prog.info? 99).map (fun i => (i.zero, i.size, i.bytes)) = some (some (.agg #[.int .i64 0, .int .i64 0, .int .i64 0, .int .i64 0]), 4, 32) := by kernel_rfl
theorem both_c (v : Value) (l : List Tie) (a b lo hi id : Int) (base : Nat) (w : World) (hv : OwnTies w base 99 v l) (hB : base ≤ w.heap.size) (hlo : 0 ≤ lo ∧ lo ≤ 16777216) (hl : l.length ≤ 1000000) :
    Calls Tryz.prog 137 #[v, .int .i64 a, .int .i64 b, .agg #[.int .i64 lo, .int .i64 hi], .int .i64 id] w
      fun e w' => ∃ u, e = .returned u ∧ OwnTies w' base 99 u (l ++ bothT a b lo hi id) ∧ Below base w w' := by
  obtain ⟨i0, hi0, hz0, hz1, hz2⟩ := info_parts Tryz.infoTie
  have HI := Lib.hid hi0
  have HI0 := Lib.hid hz0
  have HI1 := Lib.hid hz1
  have HI2 := Lib.hid hz2
  clear hi0 hz0 hz1 hz2
  have hown := hv
  unfold OwnTies at hown
  go_enter Tryz.func137, Tryz.ntmps137
  go_wp2_with (at_builtin; refine wpList_append_own _ rfl (.tmp 11) (.tmp 18) 32 rfl base 99 i0 (.agg #[.int .i64 0, .int .i64 0, .int .i64 0, .int .i64 0]) 4 32 Tryz.underlying32 HI.out HI0.out HI1.out HI2.out rfl (by decide) _ _ _ rfl ((hown.alloc _).alloc _) ⟨w.heap.size + 1, 0, none⟩ 1 1 [.int .i64 a, .int .i64 b, .int .i64 hi, .int .i64 id] rfl rfl ?c1 ?c2 ?c3 ?c4 ?c5 ?_)
  case c1 => have := cells_new (w.alloc (.cells #[.int .i64 lo, .int .i64 hi] 63)) [.int .i64 a, .int .i64 b, .int .i64 hi, .int .i64 id] 99; simpa using this
  case c2 => intro u hu; simp at hu; rcases hu with rfl | rfl | rfl | rfl <;> rfl
  case c3 => unfold maxLen; omega
  case c4 => omega
  case c5 => simp; omega
  intro v' w1 hown' hgrow _
  have hne : some w.heap.size ≠ v.ownBlock := fun e => by have := (hown.lt _ e.symm).2; omega
  have hc0 : w1.cell? ⟨w.heap.size, 0, none⟩ = some (.int .i64 lo) := by
    rw [hgrow.cell_far _ (by simp; omega) hne]; go_simp
  have hs1 := hgrow.size
  simp only [World.size_alloc] at hs1
  have hB1 : Below base w w1 := (((Below.refl base w).alloc hB _).alloc (by simp; omega) _).grown hgrow (by simp; omega) fun k hk => (hown.lt k hk).1
  have hown1 : w1.ownsRow base 99 4 v' (l.length + 1) (l.flatMap tC ++ tC ⟨a, b, hi, id⟩) := hown'
  clear hgrow hown'
  have hlt1 : w.heap.size < w1.heap.size := by omega
  go_wp2_with (at_builtin; refine wpList_append_own _ rfl (.tmp 20) (.tmp 28) 32 rfl base 99 i0 (.agg #[.int .i64 0, .int .i64 0, .int .i64 0, .int .i64 0]) 4 32 Tryz.underlying32 HI.out HI0.out HI1.out HI2.out rfl (by decide) _ _ _ rfl (hown1.alloc _) ⟨w1.heap.size, 0, none⟩ 1 1 [.int .i64 b, .int .i64 a, .int .i64 (-lo), .int .i64 id] rfl rfl ?d1 ?d2 ?d3 ?d4 ?d5 ?_)
  case d1 => have := cells_new w1 [.int .i64 b, .int .i64 a, .int .i64 (-lo), .int .i64 id] 99; simpa using this
  case d2 => intro u hu; simp at hu; rcases hu with rfl | rfl | rfl | rfl <;> rfl
  case d3 => unfold maxLen; omega
  case d4 => omega
  case d5 => simp; omega
  intro v2 w2 hown2 hgrow2 _
  go_wp2
  go_ret
  refine ⟨_, rfl, ?_, ((hB1.alloc (by omega) _).grown hgrow2 (by simp; omega) fun k hk => (hown1.lt k hk).1)⟩
  unfold OwnTies
  simpa [bothT, tC, Nat.add_assoc] using hown2
theorem len_range_two {f : Nat → List Tie} {c : Nat} (h : ∀ i, (f i).length ≤ c) (j : Nat) : ((List.range j).flatMap f).length ≤ c * j := by
  induction j with
  | zero => simp
  | succ j ih => rw [flat_range_snoc, List.length_append, Nat.mul_succ]; have := h j; omega
theorem loadTies_len (k : Kl) (i : Nat) : (loadTies k i).length ≤ 2 := by unfold loadTies; split <;> simp [bothT]
theorem drawTies_len (k : Kl) (i : Nat) : (drawTies k i).length ≤ 2 := by unfold drawTies; split <;> simp [bothT]
theorem wgTies_len (k : Kl) (i : Nat) : (wgTies k i).length ≤ 2 := by unfold wgTies; split <;> simp [bothT]
theorem stockTies_len (k : Kl) (i : Nat) : (stockTies k i).length ≤ 1 := by unfold stockTies; split <;> simp
theorem roomTies_len (k : Kl) (i : Nat) : (roomTies k i).length ≤ 1 := by unfold roomTies; split <;> simp
theorem tiesL_len {k : Kl} (hs : Small k) : (tiesL k).length ≤ 160 := by
  have h1 := len_range_two (loadTies_len k) k.ls.length
  have h2 := len_range_two (drawTies_len k) k.ds.length
  have h3 := len_range_two (wgTies_len k) k.ws.length
  have h4 := len_range_two (stockTies_len k) k.ds.length
  have h5 := len_range_two (roomTies_len k) k.ls.length
  have := hs.ls
  have := hs.ds
  have := hs.ws
  simp only [tiesL, List.length_append]
  omega
set_option maxHeartbeats 4000000 in
set_option maxRecDepth 100000 in
theorem rties_c (k : Kl) (v : Value) (w : World) (hv : Kiln w v k) (hs : Small k) :
    Calls Tryz.prog 71 #[v] w fun e w' => ∃ u, e = .returned u ∧ OwnTies w' (w.heap.size + 1) 99 u (tiesL k) ∧ Below w.heap.size w w' := by
  obtain ⟨vl, vd, vw, rfl, hl, hd, hw⟩ := id hv
  obtain ⟨A, cap, rfl, _, _, hat⟩ := hl.open_
  obtain ⟨A2, cap2, rfl, _, _, hat2⟩ := hd.open_
  obtain ⟨A3, cap3, rfl, _, _, hat3⟩ := hw.open_
  have H := Lib.hid hat
  have H2 := Lib.hid hat2
  have H3 := Lib.hid hat3
  clear hat hat2 hat3
  have hn1 := hs.ls
  have hn2 := hs.ds
  have hn3 := hs.ws
  have hrm := hs.room
  obtain ⟨i0, hi0, hz0, hz1, hz2⟩ := info_parts Tryz.infoTie
  have HI := Lib.hid hi0
  have HI0 := Lib.hid hz0
  have HI1 := Lib.hid hz1
  have HI2 := Lib.hid hz2
  clear hi0 hz0 hz1 hz2
  go_enter Tryz.func71, Tryz.ntmps71
  go_wp2
  go_loopw [3, 4] (fun v i wr => ∃ j : Nat, j ≤ k.ls.length ∧ i = .int .i64 j ∧ OwnTies wr (w.heap.size + 1) 99 v ( (List.range j).flatMap (loadTies k)) ∧ Below (w.heap.size + 1) (w.alloc (.cells #[.int .i64 k.room, .int .i64 k.per, .slice A k.ls.length cap, .slice A2 k.ds.length cap2, .slice A3 k.ws.length cap3] 26)) wr) (fun _ i _ => k.ls.length - (intOf i).toNat)
  case atStart => exact ⟨0, Nat.zero_le _, rfl, by unfold OwnTies; simpa using World.ownsRow_nil _ _ _ _, Below.refl _ _⟩
  case round =>
    obtain ⟨j, hj, rfl, hown, hbw⟩ := hrel
    obtain ⟨hc, hf⟩ := bcellB hbw
    have hb1 : w.heap.size + 1 ≤ wr.heap.size := by have := hbw.size; simpa using this
    have hlen := Lib.hid (fun (j : Nat) (hj : j ≤ k.ls.length) => show ((List.range j).flatMap (loadTies k)).length ≤ 1000000 from by
        have := len_range_two (loadTies_len k) j
        omega)
    by_cases hlt : j < k.ls.length
    · obtain ⟨b, off, x, rfl, hb, hx0, c0, _, c2, c3⟩ := H.out j hlt
      have hbd := hs.lb j x hx0
      have hx := Lib.hid hx0
      clear hx0
      have hbk : b < w.heap.size + 1 := by omega
      have hbr : b < wr.heap.size := by omega
      have hwr : w.heap.size < wr.heap.size := by omega
      have hll := hlen.out j hj
      go_wp2_with fail
      refine wp_region_grown_tail 16 (by kernel_rfl) (by kernel_rfl) fun hcg => ?_
      simp only [List.take_succ_cons, List.take_zero, List.drop_succ_cons, List.drop_zero]
      repeat (go_big_quiet_step (fail))
      refine wpQuiet_nil ?_
      intro _ hw'
      obtain ⟨g, hw''⟩ := hw'
      subst hw''
      have hBg := below_grown hbw hb1 g.b
      have howng := own_later hown g.b
      have hgs := g.b.size
      go_wp2_with fail
      refine (both_c _ _ _ _ _ _ _ (w.heap.size + 1) _ howng (by omega) (by omega) (by omega)).mono ?_
      rintro e w3 ⟨u, rfl, hown3, hB3⟩
      have hBn := hBg.trans hB3
      go_wp2_with fail
      go_roundw
      case rel => exact ⟨j + 1, by omega, by go_num, by rw [flat_range_snoc, show loadTies k j = _ by unfold loadTies; rw [hx.out]]; exact hown3, hBn⟩
      case measure => simp [intOf]; omega
    · obtain rfl : j = k.ls.length := by omega
      go_wp2
      go_loopw [3, 5] (fun v i wr => ∃ j : Nat, j ≤ k.ds.length ∧ i = .int .i64 j ∧ OwnTies wr (w.heap.size + 1) 99 v ((List.range k.ls.length).flatMap (loadTies k) ++ (List.range j).flatMap (drawTies k)) ∧ Below (w.heap.size + 1) (w.alloc (.cells #[.int .i64 k.room, .int .i64 k.per, .slice A k.ls.length cap, .slice A2 k.ds.length cap2, .slice A3 k.ws.length cap3] 26)) wr) (fun _ i _ => k.ds.length - (intOf i).toNat)
      case atStart => exact ⟨0, Nat.zero_le _, rfl, by simpa using hown, hbw⟩
      case round =>
        obtain ⟨j, hj, rfl, hown, hbw⟩ := hrel
        obtain ⟨hc, hf⟩ := bcellB hbw
        have hb1 : w.heap.size + 1 ≤ wr.heap.size := by have := hbw.size; simpa using this
        have hlen := Lib.hid (fun (j : Nat) (hj : j ≤ k.ds.length) => show ((List.range k.ls.length).flatMap (loadTies k) ++ (List.range j).flatMap (drawTies k)).length ≤ 1000000 from by
            simp only [List.length_append]
            have := len_range_two (loadTies_len k) k.ls.length
            have := len_range_two (drawTies_len k) j
            omega)
        by_cases hlt : j < k.ds.length
        · obtain ⟨b, off, x, rfl, hb, hx0, c0, _, c2, c3⟩ := H2.out j hlt
          have hbd := hs.db j x hx0
          have hx := Lib.hid hx0
          clear hx0
          have hbk : b < w.heap.size + 1 := by omega
          have hbr : b < wr.heap.size := by omega
          have hwr : w.heap.size < wr.heap.size := by omega
          have hll := hlen.out j hj
          go_wp2_with fail
          refine wp_region_grown_tail 20 (by kernel_rfl) (by kernel_rfl) fun hcg => ?_
          simp only [List.take_succ_cons, List.take_zero, List.drop_succ_cons, List.drop_zero]
          repeat (go_big_quiet_step (first | (go_at_call 101; exact Calls.grown (mark_c k _ _ _ (by omega) (by omega) (hv.later (below_then (below_alloc _ _) (below_then (hbw.mono (by simp)) (Gr.b _))))))))
          refine wpQuiet_nil ?_
          intro _ hw'
          obtain ⟨g, hw''⟩ := hw'
          subst hw''
          have hBg := below_grown hbw hb1 g.b
          have howng := own_later hown g.b
          have hgs := g.b.size
          go_wp2_with fail
          refine (both_c _ _ _ _ _ _ _ (w.heap.size + 1) _ howng (by omega) (by omega) (by omega)).mono ?_
          rintro e w3 ⟨u, rfl, hown3, hB3⟩
          have hBn := hBg.trans hB3
          go_wp2_with fail
          go_roundw
          case rel => exact ⟨j + 1, by omega, by go_num, by rw [flat_range_snoc, show drawTies k j = _ by unfold drawTies; rw [hx.out]]; rw [← List.append_assoc]; exact hown3, hBn⟩
          case measure => simp [intOf]; omega
        · obtain rfl : j = k.ds.length := by omega
          go_wp2
          go_loopw [3, 6] (fun v i wr => ∃ j : Nat, j ≤ k.ws.length ∧ i = .int .i64 j ∧ OwnTies wr (w.heap.size + 1) 99 v ((List.range k.ls.length).flatMap (loadTies k) ++ (List.range k.ds.length).flatMap (drawTies k) ++ (List.range j).flatMap (wgTies k)) ∧ Below (w.heap.size + 1) (w.alloc (.cells #[.int .i64 k.room, .int .i64 k.per, .slice A k.ls.length cap, .slice A2 k.ds.length cap2, .slice A3 k.ws.length cap3] 26)) wr) (fun _ i _ => k.ws.length - (intOf i).toNat)
          case atStart => exact ⟨0, Nat.zero_le _, rfl, by simpa using hown, hbw⟩
          case round =>
            obtain ⟨j, hj, rfl, hown, hbw⟩ := hrel
            obtain ⟨hc, hf⟩ := bcellB hbw
            have hb1 : w.heap.size + 1 ≤ wr.heap.size := by have := hbw.size; simpa using this
            have hlen := Lib.hid (fun (j : Nat) (hj : j ≤ k.ws.length) => show ((List.range k.ls.length).flatMap (loadTies k) ++ (List.range k.ds.length).flatMap (drawTies k) ++ (List.range j).flatMap (wgTies k)).length ≤ 1000000 from by
                simp only [List.length_append]
                have := len_range_two (loadTies_len k) k.ls.length
                have := len_range_two (drawTies_len k) k.ds.length
                have := len_range_two (wgTies_len k) j
                omega)
            by_cases hlt : j < k.ws.length
            · obtain ⟨b, off, x, rfl, hb, hx0, c0, c1, c2, c3, c4, c5⟩ := H3.out j hlt
              have hbd := hs.wb j x hx0
              have hx := Lib.hid hx0
              clear hx0
              have hbk : b < w.heap.size + 1 := by omega
              have hbr : b < wr.heap.size := by omega
              have hwr : w.heap.size < wr.heap.size := by omega
              have hll := hlen.out j hj
              go_wp2_with fail
              refine wp_region_grown (by kernel_rfl) (by kernel_rfl) fun hcg => ?_
              repeat (go_big_quiet_step (first | (go_at_call 138; exact Calls.grown (ends_c k _ x _ (hv.later (below_then (below_alloc _ _) (below_then (hbw.mono (by simp)) (Gr.b _))))))))
              refine wpQuiet_nil ?_
              intro _ hw'
              obtain ⟨g0, hw''⟩ := hw'
              subst hw''
              have hbw0 := below_grown hbw hb1 g0.b
              have hown0 := own_later hown g0.b
              have hgs0 := g0.b.size
              have hb10 : w.heap.size + 1 ≤ g0.val.heap.size := by omega
              have hbr0 : b < g0.val.heap.size := by omega
              have hwr0 : w.heap.size < g0.val.heap.size := by omega
              go_wp2_with fail
              refine wp_region_grown_tail 15 (by kernel_rfl) (by kernel_rfl) fun hcg => ?_
              simp only [List.take_succ_cons, List.take_zero, List.drop_succ_cons, List.drop_zero]
              repeat (go_big_quiet_step (fail))
              refine wpQuiet_nil ?_
              intro _ hw'
              obtain ⟨g, hw''⟩ := hw'
              subst hw''
              have hBg := below_grown hbw0 hb10 g.b
              have howng := own_later hown0 g.b
              have hgs := g.b.size
              go_wp2_with fail
              refine (both_c _ _ _ _ _ _ _ (w.heap.size + 1) _ howng (by omega) (by omega) (by omega)).mono ?_
              rintro e w3 ⟨u, rfl, hown3, hB3⟩
              have hBn := hBg.trans hB3
              go_wp2_with fail
              go_roundw
              case rel => exact ⟨j + 1, by omega, by go_num, by rw [flat_range_snoc, show wgTies k j = _ by unfold wgTies; rw [hx.out]]; rw [← List.append_assoc]; exact hown3, hBn⟩
              case measure => simp [intOf]; omega
            · obtain rfl : j = k.ws.length := by omega
              go_wp2
              go_loopw [3, 9] (fun v i wr => ∃ j : Nat, j ≤ k.ds.length ∧ i = .int .i64 j ∧ OwnTies wr (w.heap.size + 1) 99 v ((List.range k.ls.length).flatMap (loadTies k) ++ (List.range k.ds.length).flatMap (drawTies k) ++ (List.range k.ws.length).flatMap (wgTies k) ++ (List.range j).flatMap (stockTies k)) ∧ Below (w.heap.size + 1) (w.alloc (.cells #[.int .i64 k.room, .int .i64 k.per, .slice A k.ls.length cap, .slice A2 k.ds.length cap2, .slice A3 k.ws.length cap3] 26)) wr) (fun _ i _ => k.ds.length - (intOf i).toNat)
              case atStart => exact ⟨0, Nat.zero_le _, rfl, by simpa using hown, hbw⟩
              case round =>
                obtain ⟨j, hj, rfl, hown, hbw⟩ := hrel
                obtain ⟨hc, hf⟩ := bcellB hbw
                have hb1 : w.heap.size + 1 ≤ wr.heap.size := by have := hbw.size; simpa using this
                have hlen := Lib.hid (fun (j : Nat) (hj : j ≤ k.ds.length) => show ((List.range k.ls.length).flatMap (loadTies k) ++ (List.range k.ds.length).flatMap (drawTies k) ++ (List.range k.ws.length).flatMap (wgTies k) ++ (List.range j).flatMap (stockTies k)).length ≤ 1000000 from by
                    simp only [List.length_append]
                    have := len_range_two (loadTies_len k) k.ls.length
                    have := len_range_two (drawTies_len k) k.ds.length
                    have := len_range_two (wgTies_len k) k.ws.length
                    have := len_range_two (stockTies_len k) j
                    omega)
                by_cases hlt : j < k.ds.length
                · obtain ⟨b, off, x, rfl, hb, hx0, c0, c1, c2, c3⟩ := H2.out j hlt
                  have hbd := hs.db j x hx0
                  have hx := Lib.hid hx0
                  clear hx0
                  have hbk : b < w.heap.size + 1 := by omega
                  have hbr : b < wr.heap.size := by omega
                  have hwr : w.heap.size < wr.heap.size := by omega
                  have hll := hlen.out j hj
                  go_wp2_with fail
                  refine wp_region_grown_tail1 13 (by kernel_rfl) (by kernel_rfl) _ rfl rfl (fun _ _ _ _ h => h) fun hcg => ?_
                  simp only [Act.put, Act.eval, List.setIfInBounds_toArray, List.set_cons_zero, List.set_cons_succ, Array.getD_eq_getD_getElem?, List.getElem?_toArray, List.getElem?_cons_succ, List.getElem?_cons_zero, Option.getD_some, List.take_succ_cons, List.take_zero, List.drop_succ_cons, List.drop_zero]
                  repeat (go_big_quiet_step (first | (go_at_call 101; exact Calls.grown (mark_c k _ _ _ (by omega) (by omega) (hv.later (below_then (below_alloc _ _) (below_then (hbw.mono (by simp)) (Gr.b _)))))) | (go_at_call 109; exact Calls.grown (charged_c k _ _ _ (hv.later (below_then (below_alloc _ _) (below_then (hbw.mono (by simp)) (Gr.b _))))))))
                  refine wpQuiet_nil ?_
                  intro _ hw'
                  obtain ⟨g, hw''⟩ := hw'
                  subst hw''
                  have hBg := below_grown hbw hb1 g.b
                  have howng := own_later hown g.b
                  have hgs := g.b.size
                  go_wp2_with (at_builtin; refine wpList_append_own _ rfl _ _ 32 rfl (w.heap.size + 1) 99 i0 (.agg #[.int .i64 0, .int .i64 0, .int .i64 0, .int .i64 0]) 4 32 Tryz.underlying32 HI.out HI0.out HI1.out HI2.out rfl (by decide) _ _ _ rfl (howng.alloc _) ⟨g.val.heap.size, 0, none⟩ 1 1 [.int .i64 (chargedI k x.hour), .int .i64 (markI k (j + 1)), .int .i64 0, .int .i64 0] rfl rfl ?c1 ?c2 ?c3 ?c4 ?c5 ?_)
                  case c1 => have := cells_new g.val [.int .i64 (chargedI k x.hour), .int .i64 (markI k (j + 1)), .int .i64 0, .int .i64 0] 99; simpa using this
                  case c2 => intro u hu; simp at hu; rcases hu with rfl | rfl | rfl | rfl <;> rfl
                  case c3 => unfold maxLen; omega
                  case c4 => omega
                  case c5 => simp; omega
                  intro v' w3 hown3 hgrow _
                  have hBn := below_append hBg (by omega) howng hgrow
                  clear hgrow
                  go_wp2
                  go_roundw
                  case rel => exact ⟨j + 1, by omega, by go_num, by rw [flat_range_snoc, show stockTies k j = _ by unfold stockTies; rw [hx.out]]; unfold OwnTies; simpa [tC, Nat.add_assoc, List.append_assoc] using hown3, hBn⟩
                  case measure => simp [intOf]; omega
                · obtain rfl : j = k.ds.length := by omega
                  go_wp2
                  go_loopw [3, 10] (fun v i wr => ∃ j : Nat, j ≤ k.ls.length ∧ i = .int .i64 j ∧ OwnTies wr (w.heap.size + 1) 99 v ((List.range k.ls.length).flatMap (loadTies k) ++ (List.range k.ds.length).flatMap (drawTies k) ++ (List.range k.ws.length).flatMap (wgTies k) ++ (List.range k.ds.length).flatMap (stockTies k) ++ (List.range j).flatMap (roomTies k)) ∧ Below (w.heap.size + 1) (w.alloc (.cells #[.int .i64 k.room, .int .i64 k.per, .slice A k.ls.length cap, .slice A2 k.ds.length cap2, .slice A3 k.ws.length cap3] 26)) wr) (fun _ i _ => k.ls.length - (intOf i).toNat)
                  case atStart => exact ⟨0, Nat.zero_le _, rfl, by simpa using hown, hbw⟩
                  case round =>
                    obtain ⟨j, hj, rfl, hown, hbw⟩ := hrel
                    obtain ⟨hc, hf⟩ := bcellB hbw
                    have hb1 : w.heap.size + 1 ≤ wr.heap.size := by have := hbw.size; simpa using this
                    have hlen := Lib.hid (fun (j : Nat) (hj : j ≤ k.ls.length) => show ((List.range k.ls.length).flatMap (loadTies k) ++ (List.range k.ds.length).flatMap (drawTies k) ++ (List.range k.ws.length).flatMap (wgTies k) ++ (List.range k.ds.length).flatMap (stockTies k) ++ (List.range j).flatMap (roomTies k)).length ≤ 1000000 from by
                        simp only [List.length_append]
                        have := len_range_two (loadTies_len k) k.ls.length
                        have := len_range_two (drawTies_len k) k.ds.length
                        have := len_range_two (wgTies_len k) k.ws.length
                        have := len_range_two (stockTies_len k) k.ds.length
                        have := len_range_two (roomTies_len k) j
                        omega)
                    by_cases hlt : j < k.ls.length
                    · obtain ⟨b, off, x, rfl, hb, hx0, c0, c1, c2, c3⟩ := H.out j hlt
                      have hbd := hs.lb j x hx0
                      have hx := Lib.hid hx0
                      clear hx0
                      have hbk : b < w.heap.size + 1 := by omega
                      have hbr : b < wr.heap.size := by omega
                      have hwr : w.heap.size < wr.heap.size := by omega
                      have hll := hlen.out j hj
                      go_wp2_with fail
                      refine wp_region_grown_tail1 14 (by kernel_rfl) (by kernel_rfl) _ rfl rfl (fun _ _ _ _ h => h) fun hcg => ?_
                      simp only [Act.put, Act.eval, List.setIfInBounds_toArray, List.set_cons_zero, List.set_cons_succ, Array.getD_eq_getD_getElem?, List.getElem?_toArray, List.getElem?_cons_succ, List.getElem?_cons_zero, Option.getD_some, List.take_succ_cons, List.take_zero, List.drop_succ_cons, List.drop_zero]
                      repeat (go_big_quiet_step (first | (go_at_call 108; exact Calls.grown (drawn_c k _ _ _ (hv.later (below_then (below_alloc _ _) (below_then (hbw.mono (by simp)) (Gr.b _))))))))
                      refine wpQuiet_nil ?_
                      intro _ hw'
                      obtain ⟨g, hw''⟩ := hw'
                      subst hw''
                      have hBg := below_grown hbw hb1 g.b
                      have howng := own_later hown g.b
                      have hgs := g.b.size
                      go_wp2_with (at_builtin; refine wpList_append_own _ rfl _ _ 32 rfl (w.heap.size + 1) 99 i0 (.agg #[.int .i64 0, .int .i64 0, .int .i64 0, .int .i64 0]) 4 32 Tryz.underlying32 HI.out HI0.out HI1.out HI2.out rfl (by decide) _ _ _ rfl (howng.alloc _) ⟨g.val.heap.size, 0, none⟩ 1 1 [.int .i64 (drawnI k (x.hour - 1)), .int .i64 (j + 1), .int .i64 k.room, .int .i64 0] rfl rfl ?c1 ?c2 ?c3 ?c4 ?c5 ?_)
                      case c1 => have := cells_new g.val [.int .i64 (drawnI k (x.hour - 1)), .int .i64 (j + 1), .int .i64 k.room, .int .i64 0] 99; simpa using this
                      case c2 => intro u hu; simp at hu; rcases hu with rfl | rfl | rfl | rfl <;> rfl
                      case c3 => unfold maxLen; omega
                      case c4 => omega
                      case c5 => simp; omega
                      intro v' w3 hown3 hgrow _
                      have hBn := below_append hBg (by omega) howng hgrow
                      clear hgrow
                      go_wp2
                      go_roundw
                      case rel => exact ⟨j + 1, by omega, by go_num, by rw [flat_range_snoc, show roomTies k j = _ by unfold roomTies; rw [hx.out]]; unfold OwnTies; simpa [tC, Nat.add_assoc, List.append_assoc] using hown3, hBn⟩
                      case measure => simp [intOf]; omega
                    · obtain rfl : j = k.ls.length := by omega
                      go_wp2
                      go_ret
                      exact ⟨_, rfl, hown, below_then (below_alloc _ _) (hbw.mono (by simp))⟩
end Go.Proofs.YtnedcclmfokdnaaGreat
namespace Go.Proofs.YtnedcclmfokdnaaGreat
open Go.RowKit
theorem list_no {α : Type} {l r : List α} {j : Nat} {x y : α} (hx : l[j]? = some x) (hy : r[j]? = some y) (h : x ≠ y) : l ≠ r := by
  rintro rfl; rw [hx] at hy; cases hy; exact h rfl
theorem list_yes {α : Type} {l r : List α} (hn : l.length = r.length) (h : ∀ (m : Nat) (x y : α), m < l.length → l[m]? = some x → r[m]? = some y → x = y) : l = r := by
  refine List.ext_getElem hn fun m h1 h2 => ?_
  exact h m _ _ h1 (List.getElem?_eq_getElem h1) (List.getElem?_eq_getElem h2)
theorem sameInts_c (u v : Value) (l r : List Int) (w : World) (hu : Ints w w.heap.size u l) (hv : Ints w w.heap.size v r) :
    Calls Tryz.prog 53 #[u, v] w fun e w' => e = .returned (.bool (decide (l = r))) ∧ Below w.heap.size w w' := by
  obtain ⟨A, cap, rfl, _, hn, hat⟩ := hu.open_
  obtain ⟨A2, cap2, rfl, _, hn2, hat2⟩ := hv.open_
  have H := Lib.hid hat
  have H2 := Lib.hid hat2
  clear hat hat2
  by_cases hl : l.length = r.length
  · have HL := Lib.hid hl
    have hb1 : ((l.length : Int) != r.length) = false := by simp [hl]
    have hl1 : l.length ≤ r.length := by omega
    clear hl
    go_enter Tryz.func53, Tryz.ntmps53
    go_wp2
    go_loopw [5] (fun i wr => ∃ j n : Nat, j ≤ l.length ∧ i = .int .i64 j ∧ wr = w.drewN n ∧ Hid (∀ (m : Nat) (x y : Int), m < j → l[m]? = some x → r[m]? = some y → x = y)) (fun i _ => l.length - (intOf i).toNat)
    case atStart => exact ⟨0, 0, Nat.zero_le _, rfl, rfl, fun _ _ _ h => absurd h (by omega)⟩
    case round =>
      obtain ⟨j, n, hj, rfl, rfl, hq⟩ := hrel
      by_cases hlt : j < l.length
      · obtain ⟨b, off, x, rfl, _, hx0, cx⟩ := H.out j hlt
        obtain ⟨b2, off2, y, rfl, _, hy0, cy⟩ := H2.out j (by omega)
        have hx := Lib.hid hx0
        have hy := Lib.hid hy0
        clear hx0 hy0
        go_wp2_with fail
        go_quiet (fail)
        go_wp2
        · have e : (x != y) = true := by assumption
          go_ret
          exact ⟨ret_bool (decide_eq_false (list_no hx.out hy.out (by simpa using e))).symm, below_drewN (below_drewN (Below.refl _ _) _) _⟩
        · have e : (x != y) = false := by assumption
          go_roundw
          case rel => exact ⟨j + 1, n + nq, by omega, by go_num, by simp, fun m a b hm ha hb => by
            by_cases e' : m = j
            · subst e'; rw [hx.out] at ha; rw [hy.out] at hb; cases ha; cases hb; simpa using e
            · exact hq.out m a b (by omega) ha hb⟩
          case measure => simp [intOf]; omega
      · go_wp2
        go_ret
        exact ⟨ret_bool (decide_eq_true (list_yes HL.out fun m x y hm hx hy => hq.out m x y (by omega) hx hy)).symm, below_drewN (Below.refl _ _) _⟩
  · have hb1 : ((l.length : Int) != r.length) = true := by simp; omega
    go_enter Tryz.func53, Tryz.ntmps53
    go_wp2
    go_ret
    exact ⟨ret_bool (decide_eq_false (by rintro rfl; exact hl rfl)).symm, Below.refl _ _⟩
def pathI (l : List Tie) (p : List Int) (frm too : Int) : Int × Bool := match walkI l p frm 0 with | some (a, s) => (s, a == too) | none => (0, false)
set_option maxHeartbeats 1000000 in
theorem rpath_c (u v : Value) (l : List Tie) (p : List Int) (frm too : Int) (w : World) (hu : TiesAt w w.heap.size u l) (hv : Ints w w.heap.size v p) (hs : TiesSmall l) (hp : p.length ≤ 1000) (hl : l.length ≤ 1000) :
    Calls Tryz.prog 92 #[u, v, .int .i64 frm, .int .i64 too] w fun e w' => e = .returned (.tuple #[.int .i64 (pathI l p frm too).1, .bool (pathI l p frm too).2]) ∧ Below w.heap.size w w' := by
  obtain ⟨A, cap, rfl, _, hn, hat⟩ := hu.open_
  obtain ⟨A2, cap2, rfl, _, hn2, hat2⟩ := hv.open_
  have H := Lib.hid hat
  have H2 := Lib.hid hat2
  have HS := Lib.hid hs
  clear hat hat2 hs
  go_enter Tryz.func92, Tryz.ntmps92
  go_wp2
  go_loopw [10, 11, 12] (fun a s i wr => ∃ (j : Nat) (at_ sum : Int), j ≤ p.length ∧ i = .int .i64 j ∧ a = .int .i64 at_ ∧ s = .int .i64 sum ∧ w = wr ∧ Hid (walkI l (p.take j) frm 0 = some (at_, sum))) (fun _ _ i _ => p.length - (intOf i).toNat)
  case atStart => exact ⟨0, frm, 0, Nat.zero_le _, rfl, rfl, rfl, rfl, rfl⟩
  case round =>
    obtain ⟨j, at_, sum, hj, rfl, rfl, rfl, rfl, hq⟩ := hrel
    have hsum := walkI_bound HS.out _ _ _ _ _ hq.out
    have htk : (p.take j).length ≤ 1000 := by have := List.length_take_le j p; omega
    have hs1 : -16777216000 ≤ sum := by omega
    have hs2 : sum ≤ 16777216000 := by omega
    clear hsum htk
    by_cases hlt : j < p.length
    · obtain ⟨b, off, x, rfl, _, hx0, cx⟩ := H2.out j hlt
      have hx := Lib.hid hx0
      clear hx0
      by_cases hin : 0 ≤ x ∧ x < l.length
      · obtain ⟨q, rfl⟩ := Int.eq_ofNat_of_zero_le hin.1
        have hql : q < l.length := by omega
        obtain ⟨b2, off2, t, rfl, _, ht0, c0, c1, c2, c3⟩ := H.out q hql
        have ht := Lib.hid ht0
        have htb := HS.out q t ht0
        clear ht0
        have hB : inB (q : Int) 0 ((l.length : Int) - 1) = true := by simp [inB]; omega
        have hq0 : 1 ≤ q ∨ (q ≤ 0 ∧ w.cell? ⟨b2, off2, none⟩ = some (.int .i64 t.frm)) := by
          rcases Nat.eq_zero_or_pos q with h | h
          · subst h; exact .inr ⟨by omega, by simpa using c0⟩
          · exact .inl h
        by_cases hf : t.frm = at_
        · have hfb : (t.frm != at_) = false := by simp [hf]
          have HF := Lib.hid hf
          clear hf
          rcases hq0 with hq0 | ⟨hq0, c00⟩
          all_goals
            go_wp2_with fail
            refine (in_c _ _ _ _).mono ?_
            rintro e w' ⟨rfl, rfl⟩
            go_wp2_with fail
            go_roundw
            case rel => exact ⟨j + 1, t.too, sum + t.most, by omega, by go_num, rfl, rfl, trivial, walk_step hq.out hx.out ht.out HF.out⟩
            case measure => simp [intOf]; omega
        · have hfb : (t.frm != at_) = true := by simp [hf]
          have HF := Lib.hid hf
          clear hf
          have hpi0 : pathI l p frm too = (0, false) := by
            unfold pathI; rw [walk_stop hq.out hx.out fun t' ht' => by rw [tieAt_nat, ht.out] at ht'; cases ht'; exact HF.out]
          have hpi := Lib.hid hpi0
          clear hpi0
          rcases hq0 with hq0 | ⟨hq0, c00⟩
          all_goals
            go_wp2_with fail
            refine (in_c _ _ _ _).mono ?_
            rintro e w' ⟨rfl, rfl⟩
            go_wp2_with fail
            go_ret2
            exact ⟨by rw [hpi.out]; rfl, Below.refl _ _⟩
      · have hB : inB x 0 ((l.length : Int) - 1) = false := by simp [inB]; omega
        have hpi : Hid (pathI l p frm too = (0, false)) := by
          show pathI l p frm too = (0, false)
          unfold pathI; rw [walk_stop hq.out hx.out fun t' ht' => by rw [tieAt_out hin] at ht'; cases ht']
        go_wp2_with fail
        refine (in_c _ _ _ _).mono ?_
        rintro e w' ⟨rfl, rfl⟩
        go_wp2_with fail
        go_ret2
        exact ⟨by rw [hpi.out]; rfl, Below.refl _ _⟩
    · obtain rfl : j = p.length := by omega
      have hpi : Hid (pathI l p frm too = (sum, at_ == too)) := by
        show pathI l p frm too = (sum, at_ == too)
        have := hq.out
        rw [List.take_length] at this
        unfold pathI; rw [this]
      go_wp2_with fail
      go_ret2
      exact ⟨by rw [hpi.out]; rfl, Below.refl _ _⟩
end Go.Proofs.YtnedcclmfokdnaaGreat
namespace Go.Proofs.YtnedcclmfokdnaaGreat
open Go.RowKit
theorem OwnTies.at_ {w : World} {base : Nat} {e : TypeId} {v : Value} {l : List Tie} (h : OwnTies w base e v l) (hl : l.length ≤ 140737488355328) : TiesAt w w.heap.size v l := Sl.of_own tC_len h hl
def circleI (l : List Tie) (p : List Int) : Int := match p[0]? with
  | some x => match tieAt l x with
    | some t => match walkI l p t.frm 0 with
      | some (a, s) => if a = t.frm ∧ s < 0 then 0 else 8
      | none => 8
    | none => 8
  | none => 8
theorem circle_path {l : List Tie} {p : List Int} {x : Int} {t : Tie} (hx : p[0]? = some x) (ht : tieAt l x = some t) :
    ((pathI l p t.frm t.frm).2 = true ∧ (pathI l p t.frm t.frm).1 < 0 → circleI l p = 0) ∧ (¬ ((pathI l p t.frm t.frm).2 = true ∧ (pathI l p t.frm t.frm).1 < 0) → circleI l p = 8) := by
  unfold circleI pathI
  rw [hx]
  simp only [ht]
  cases walkI l p t.frm 0 with
  | none => simp
  | some r =>
    obtain ⟨a, s⟩ := r
    simp only [beq_iff_eq]
    constructor
    · intro h; rw [if_pos h]
    · intro h; rw [if_neg h]
def clashI (k : Kl) (p : List Int) : Int := if checkI k ≠ 0 then checkI k else if 200 < p.length then 2 else circleI (tiesL k) p
set_option maxHeartbeats 1000000 in
set_option maxRecDepth 100000 in
theorem rclash_c (k : Kl) (v u : Value) (p : List Int) (w : World) (hv : Kiln w v k) (hp : Ints w w.heap.size u p) :
    Calls Tryz.prog 28 #[v, u] w fun e w' => e = .returned (.int .i64 (clashI k p)) ∧ Below w.heap.size w w' := by
  obtain ⟨vl, vd, vw, rfl, _, _, _⟩ := id hv
  obtain ⟨A, cap, rfl, _, hn, hat⟩ := id hp
  by_cases h0 : checkI k = 0
  · have hR := right_of_check h0
    have hS := hR.small
    have hlen := tiesL_len hS
    have hTS := Lib.hid hS.ties
    have H0 := Lib.hid h0
    by_cases h200 : 200 < p.length
    · go_enter Tryz.func28, Tryz.ntmps28
      go_wp2_with fail
      refine (rcheck_c k _ _ (hv.later (below_alloc _ _))).mono ?_
      rintro e w1 ⟨rfl, hb1⟩
      rw [H0.out]
      go_wp2_with fail
      go_ret
      exact ⟨ret_int (by rw [clashI, if_neg (by simp [H0.out]), if_pos h200]), below_then (below_alloc _ _) hb1⟩
    · have hp200 : p.length ≤ 200 := by omega
      go_enter Tryz.func28, Tryz.ntmps28
      go_wp2_with fail
      refine (rcheck_c k _ _ (hv.later (below_alloc _ _))).mono ?_
      rintro e w1 ⟨rfl, hb1⟩
      rw [H0.out]
      obtain ⟨hc1, hf1⟩ := bcell hb1
      clear h0
      go_wp2_with fail
      refine (rties_c k _ _ (hv.later (below_then (below_alloc _ _) hb1)) hS).mono ?_
      rintro e w2 ⟨u2, rfl, hown, hb2⟩
      have hT := hown.at_ (by omega)
      have hB2 := below_then (below_then (below_alloc _ _) hb1) hb2
      have hp2 := hp.later hB2
      obtain ⟨A2, cap2, rfl, _, hn2, hat2⟩ := id hT.open_
      have hcl : Hid (clashI k p = circleI (tiesL k) p) := by
        show clashI k p = circleI (tiesL k) p
        rw [clashI, if_neg (by simp [H0.out]), if_neg h200]
      have hB0 := below_then (below_alloc w _) (below_then hb1 hb2)
      have H2 := Lib.hid hat2
      have HP := Lib.hid (Ints.open_ hp2)
      clear hat2
      rcases Nat.eq_zero_or_pos p.length with hz | hz
      · have hz0 : p.length ≤ 0 := by omega
        have hzb : ((p.length : Int) == 0) = true := by simp [hz]
        have hpe : p = [] := List.eq_nil_of_length_eq_zero hz
        have hc8 : Hid (clashI k p = 8) := by show clashI k p = 8; rw [hcl.out, hpe]; rfl
        clear hz hpe
        go_wp2_with fail
        go_ret
        exact ⟨ret_int hc8.out.symm, hB2⟩
      · have hzb : ((p.length : Int) == 0) = false := by rw [beq_eq_false_iff_ne]; omega
        obtain ⟨_, _, e', _, _, hat3⟩ := HP.out
        cases e'
        obtain ⟨b, off, x, rfl, _, hx0, cx⟩ := hat3 0 hz
        simp only [Nat.add_zero] at cx
        have hx := Lib.hid hx0
        clear hx0 hat3
        by_cases hin : 0 ≤ x ∧ x < (tiesL k).length
        · obtain ⟨q, rfl⟩ := Int.eq_ofNat_of_zero_le hin.1
          have hql : q < (tiesL k).length := by omega
          obtain ⟨b2, off2, t, rfl, _, ht0, c0, _, _, _⟩ := H2.out q hql
          have ht := Lib.hid ht0
          clear ht0
          have hB : inB (q : Int) 0 (((tiesL k).length : Int) - 1) = true := by simp [inB]; omega
          have hq0 : 1 ≤ q ∨ (q ≤ 0 ∧ w2.cell? ⟨b2, off2, none⟩ = some (.int .i64 t.frm)) := by
            rcases Nat.eq_zero_or_pos q with h | h
            · subst h; exact .inr ⟨by omega, by simpa using c0⟩
            · exact .inl h
          have hci := Lib.hid (circle_path (l := tiesL k) hx.out (by rw [tieAt_nat]; exact ht.out))
          by_cases hyes : (pathI (tiesL k) p t.frm t.frm).2 = true ∧ (pathI (tiesL k) p t.frm t.frm).1 < 0
          · obtain ⟨hy1, hy2⟩ := hyes
            have hres := Lib.hid (hcl.out.trans (hci.out.1 ⟨hy1, hy2⟩))
            rcases hq0 with hq0 | ⟨hq0, c00⟩
            all_goals
              go_wp2_with fail
              refine (in_c _ _ _ _).mono ?_
              rintro e w' ⟨rfl, rfl⟩
              go_wp2_with fail
              refine (rpath_c _ _ _ _ _ _ _ hT hp2 hTS.out (by omega) (by omega)).mono ?_
              rintro e w' ⟨rfl, hb3⟩
              go_wp2_with fail
              go_ret
              exact ⟨ret_int hres.out.symm, below_then hB2 hb3⟩
          · have hres := Lib.hid (hcl.out.trans (hci.out.2 hyes))
            rcases Bool.eq_false_or_eq_true (pathI (tiesL k) p t.frm t.frm).2 with hy1 | hy1
            · have hy2 : 0 ≤ (pathI (tiesL k) p t.frm t.frm).1 := by
                rcases Int.lt_or_le (pathI (tiesL k) p t.frm t.frm).1 0 with h | h
                · exact absurd ⟨hy1, h⟩ hyes
                · exact h
              clear hyes
              rcases hq0 with hq0 | ⟨hq0, c00⟩
              all_goals
                go_wp2_with fail
                refine (in_c _ _ _ _).mono ?_
                rintro e w' ⟨rfl, rfl⟩
                go_wp2_with fail
                refine (rpath_c _ _ _ _ _ _ _ hT hp2 hTS.out (by omega) (by omega)).mono ?_
                rintro e w' ⟨rfl, hb3⟩
                go_wp2_with fail
                go_ret
                exact ⟨ret_int hres.out.symm, below_then hB2 hb3⟩
            · clear hyes
              rcases hq0 with hq0 | ⟨hq0, c00⟩
              all_goals
                go_wp2_with fail
                refine (in_c _ _ _ _).mono ?_
                rintro e w' ⟨rfl, rfl⟩
                go_wp2_with fail
                refine (rpath_c _ _ _ _ _ _ _ hT hp2 hTS.out (by omega) (by omega)).mono ?_
                rintro e w' ⟨rfl, hb3⟩
                go_wp2_with fail
                go_ret
                exact ⟨ret_int hres.out.symm, below_then hB2 hb3⟩
        · have hB : inB x 0 (((tiesL k).length : Int) - 1) = false := by simp [inB]; omega
          have hc8 : Hid (clashI k p = 8) := by show clashI k p = 8; rw [hcl.out, circleI, hx.out]; simp only [tieAt_out hin]
          go_wp2_with fail
          refine (in_c _ _ _ _).mono ?_
          rintro e w' ⟨rfl, rfl⟩
          go_wp2_with fail
          go_ret
          exact ⟨ret_int hc8.out.symm, hB2⟩
  · have hcl : Hid (clashI k p = checkI k) := by show clashI k p = checkI k; rw [clashI, if_pos h0]
    have hne : (checkI k != 0) = true := by simp [h0]
    go_enter Tryz.func28, Tryz.ntmps28
    go_wp2_with fail
    refine (rcheck_c k _ _ (hv.later (below_alloc _ _))).mono ?_
    rintro e w1 ⟨rfl, hb1⟩
    go_wp2_with fail
    go_ret
    exact ⟨ret_int hcl.out.symm, below_then (below_alloc _ _) hb1⟩
end Go.Proofs.YtnedcclmfokdnaaGreat
