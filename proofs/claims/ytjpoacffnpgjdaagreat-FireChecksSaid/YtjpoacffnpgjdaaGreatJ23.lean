/- Texts joined: FRefD FRefE. -/
import Derived.Test.YtjpoacffnpgjdaaGreatJ22
import Derived.Test.YtjpoacffnpgjdaaGreatJ2
import Derived.Test.YtjpoacffnpgjdaaGreatJ3
import Derived.Test.YtjpoacffnpgjdaaGreatJ15
import Derived.Great.BuildSlice
import Derived.Test.YtjpoacffnpgjdaaGreatJ7
/- The reference for fires: the ends of a spot. -/
namespace Go.Proofs.YtjpoacffnpgjdaaGreat
open Go Go.RowKit Go.Shelf
attribute [local go_sem] Oper.semAt_some Rel RelAt RelUpon

set_option maxRecDepth 100000 in
set_option maxHeartbeats 4000000 in
theorem ends_r (f : Fi) (vl : Value) (p : Spt) (w : World) (hl : Lks w w.heap.size vl f.ls) (hf : slopeB f = true) (hk : ∀ x ∈ f.ls, lookB x = true) (hp : spotB p = true) :
    Calls Tryz.prog 82 #[fiV f vl, sV p] w fun e w' => e = .returned (.agg #[.int .i64 (endLo f f.ls p), .int .i64 (endHi f f.ls p)]) ∧ Below w.heap.size w w' := by
  obtain ⟨A, cap, rfl, _, hn, hat⟩ := Lks.open_ hl
  have H := Lib.hid hat
  clear hat hl
  have HC := Lib.hid (fun W x (hx : x ∈ f.ls) => far_r f A f.ls.length cap p x.at_ W hf hp (look_iff.1 (hk x hx)).2.1)
  have HC2 := Lib.hid (fun W x (hx : x ∈ f.ls) => far_r f A f.ls.length cap x.at_ p W hf (look_iff.1 (hk x hx)).2.1 hp)
  have HB1 := Lib.hid (fun x (hx : x ∈ f.ls) => far_bounds (f := f) hf hp (look_iff.1 (hk x hx)).2.1)
  have HB2 := Lib.hid (fun x (hx : x ∈ f.ls) => far_bounds (f := f) hf (look_iff.1 (hk x hx)).2.1 hp)
  have HL := Lib.hid (fun x (hx : x ∈ f.ls) => (look_iff.1 (hk x hx)).2.2)
  have HR1 := Lib.hid (fun j : Nat => lo_range (f := f) hf (ls := f.ls.take j) (fun x hx => hk x (List.mem_of_mem_take hx)) p)
  have HR2 := Lib.hid (fun j : Nat => hi_range (f := f) hf (ls := f.ls.take j) (fun x hx => hk x (List.mem_of_mem_take hx)) p)
  clear hk hf hp
  obtain ⟨q0, q1, q2, q3, -, qb⟩ := four_new w (.cells #[.int .i64 f.rise, .int .i64 f.fall, .int .i64 f.up, .int .i64 f.down, .slice A f.ls.length cap] 24) (.cells #[.int .i64 p.foot, .int .i64 p.hour] 26) (.cells #[.int .i64 0, .int .i64 0] 54) (.cells #[.int .i64 0, .int .i64 1500] 54)
  unfold fiV sV Lk.at_ at HC HC2
  unfold fiV sV
  go_enter Tryz.func82, Tryz.ntmps82
  go_wp2_with fail
  generalize (((w.alloc _).alloc _).alloc _).alloc _ = W1 at q0 q1 q2 q3 qb ⊢
  have hn1 : w.heap.size < w.heap.size + 1 := by omega
  have hn2 : w.heap.size + 1 < w.heap.size + 1 + 1 := by omega
  have hn3 : w.heap.size + 1 + 1 < w.heap.size + 1 + 1 + 1 := by omega
  generalize w.heap.size + 1 + 1 + 1 = n3 at q3 hn3 ⊢
  generalize w.heap.size + 1 + 1 = n2 at q2 hn2 hn3 ⊢
  generalize w.heap.size + 1 = n1 at q1 hn1 hn2 ⊢
  go_loopw [6] (fun i wr => ∃ j : Nat, j ≤ f.ls.length ∧ i = .int .i64 j ∧ wr.heap[w.heap.size]? = some (.cells #[.int .i64 f.rise, .int .i64 f.fall, .int .i64 f.up, .int .i64 f.down, .slice A f.ls.length cap] 24) ∧ wr.heap[n1]? = some (.cells #[.int .i64 p.foot, .int .i64 p.hour] 26) ∧ wr.heap[n2]? = some (.cells #[.int .i64 0, .int .i64 0] 54) ∧ wr.heap[n3]? = some (.cells #[.int .i64 (endLo f (f.ls.take j) p), .int .i64 (endHi f (f.ls.take j) p)] 54) ∧ Below w.heap.size w wr) (fun i _ => f.ls.length - (intOf i).toNat)
  case atStart => exact ⟨0, Nat.zero_le _, rfl, q0, q1, q2, q3, qb⟩
  case round =>
    clear q0 q1 q2 q3 qb
    obtain ⟨j, hj, rfl, bf, bp, br, bs, hbw⟩ := hrel
    by_cases hlt : j < f.ls.length
    · obtain ⟨b, off, x, rfl, hb, hx0, x0, x1, x2, x3, x4⟩ := H.out j hlt
      have hxm := List.mem_of_getElem? hx0
      have t1 : Hid (endLo f (f.ls.take (j + 1)) p = max (endLo f (f.ls.take j) p) (lowV f p x)) := by show _ = _; rw [take_snoc hx0, lo_more]
      have t2 : Hid (endHi f (f.ls.take (j + 1)) p = min (endHi f (f.ls.take j) p) (highV f p x)) := by show _ = _; rw [take_snoc hx0, hi_more]
      have hr1 := HR1.out j
      have hr2 := HR2.out j
      have b1 := HB1.out x hxm
      have b2 := HB2.out x hxm
      have hl2 := HL.out x hxm
      have hc1 := fun W => HC.out W x hxm
      have hc2 := fun W => HC2.out W x hxm
      unfold lowV Lk.at_ at t1
      unfold highV Lk.at_ at t2
      unfold Lk.at_ at b1 b2
      generalize endLo f (f.ls.take j) p = lo at *
      generalize endHi f (f.ls.take j) p = hi at *
      generalize farI f p ⟨x.foot, x.hour⟩ = d1 at *
      generalize farI f ⟨x.foot, x.hour⟩ p = d2 at *
      have u1 : IntKind.i64.wrap (x.lo - d1) = x.lo - d1 := by rw [IntKind.wrap_i64]; omega
      have u2 : IntKind.i64.wrap (x.hi + d2) = x.hi + d2 := by rw [IntKind.wrap_i64]; omega
      clear hx0 b1 b2 hr1 hr2 hl2 hxm
      have bw : ∀ o, wr.cell? ⟨b, o, none⟩ = w.cell? ⟨b, o, none⟩ := fun o => hbw.cell (p := ⟨b, o, none⟩) hb
      have cx0 := (bw _).trans x0
      have cx1 := (bw _).trans x1
      have cx2 := (bw _).trans x2
      have cx3 := (bw _).trans x3
      have cx4 := (bw _).trans x4
      have cf4 := Joins.cell_of_block bf 4
      clear bw x0 x1 x2 x3 x4
      have zb : b < wr.heap.size := Nat.lt_of_lt_of_le hb hbw.size
      have hF := below_alloc wr (.cells #[.int .i64 x.id, .int .i64 x.foot, .int .i64 x.hour, .int .i64 x.lo, .int .i64 x.hi] 90)
      have e2 := heap_alloc_new wr (.cells #[.int .i64 x.id, .int .i64 x.foot, .int .i64 x.hour, .int .i64 x.lo, .int .i64 x.hi] 90)
      go_wp2_with fail
      clear cx0 cx1 cx2 cx3 cx4 cf4 zb
      generalize wr.alloc (.cells #[.int .i64 x.id, .int .i64 x.foot, .int .i64 x.hour, .int .i64 x.lo, .int .i64 x.hi] 90) = W2 at hF e2 ⊢
      replace bf := (hF.block _ (size_of_block bf)).trans bf
      replace bp := (hF.block _ (size_of_block bp)).trans bp
      replace br := (hF.block _ (size_of_block br)).trans br
      have zs := size_of_block bs
      replace bs := (hF.block _ (size_of_block bs)).trans bs
      replace hbw := below_then hbw hF
      clear hF
      have zbf := size_of_block bf
      have zbp := size_of_block bp
      have zbs := size_of_block bs
      have ze2 := size_of_block e2
      have cf0 := Joins.cell_of_block bf 0
      have cf1 := Joins.cell_of_block bf 1
      have cf2 := Joins.cell_of_block bf 2
      have cf3 := Joins.cell_of_block bf 3
      have cf4 := Joins.cell_of_block bf 4
      have cp0 := Joins.cell_of_block bp 0
      have cp1 := Joins.cell_of_block bp 1
      have cs0 := Joins.cell_of_block bs 0
      have cs1 := Joins.cell_of_block bs 1
      have ce0 := Joins.cell_of_block e2 0
      have ce1 := Joins.cell_of_block e2 1
      have ce2 := Joins.cell_of_block e2 2
      have ce3 := Joins.cell_of_block e2 3
      have ce4 := Joins.cell_of_block e2 4
      refine wp_region_grown_tail 12 (by kernel_rfl) (by kernel_rfl) fun hcg => ?_
      simp only [List.take_succ_cons, List.take_zero, List.drop_succ_cons, List.drop_zero]
      repeat (go_big_quiet_step ((go_at_call 59; exact Calls.grown (hc1 _))))
      refine wpQuiet_nil ?_
      intro _ hw'
      obtain ⟨g, hw''⟩ := hw'
      subst hw''
      clear hcg cf0 cf1 cf2 cf3 cf4 cp0 cp1 cs0 cs1 ce0 ce1 ce2 ce3 ce4
      have gb := g.b
      generalize g.val = V at gb ⊢
      clear g
      replace bf := (gb.block _ (size_of_block bf)).trans bf
      replace bp := (gb.block _ (size_of_block bp)).trans bp
      replace br := (gb.block _ (size_of_block br)).trans br
      replace bs := (gb.block _ (size_of_block bs)).trans bs
      replace e2 := (gb.block _ (size_of_block e2)).trans e2
      replace hbw := below_then hbw gb
      clear gb zbf zbp zbs ze2
      have fz := Joins.unfrozen_of_block bs 0
      have cz := Joins.cell_of_block bs 0
      have zV := size_of_block bs
      go_wp2_with fail
      have bs' := Joins.block_setCell (i := 0) bs (.int .i64 (max lo (x.lo - d1)))
      have bf' := (put_other (b := n3) (i := 0) (.int .i64 (max lo (x.lo - d1))) (show w.heap.size ≠ n3 by omega)).trans bf
      have bp' := (put_other (b := n3) (i := 0) (.int .i64 (max lo (x.lo - d1))) (show n1 ≠ n3 by omega)).trans bp
      have br' := (put_other (b := n3) (i := 0) (.int .i64 (max lo (x.lo - d1))) (show n2 ≠ n3 by omega)).trans br
      have e2' := (put_other (b := n3) (i := 0) (.int .i64 (max lo (x.lo - d1))) (show wr.heap.size ≠ n3 by omega)).trans e2
      have hbw' := below_set (i := 0) (v := .int .i64 (max lo (x.lo - d1))) hbw (show w.heap.size ≤ n3 by omega)
      clear fz cz zV
      clear bs bf bp br e2 hbw
      generalize V.setCell _ _ = W3 at bs' bf' bp' br' e2' hbw' ⊢
      have bs := bs'
      have bf := bf'
      have bp := bp'
      have br := br'
      have e2 := e2'
      have hbw := hbw'
      clear bs' bf' bp' br' e2' hbw'
      replace bs : W3.heap[n3]? = some (.cells #[.int .i64 (max lo (x.lo - d1)), .int .i64 hi] 54) := by simpa using bs
      skip
      have zbf := size_of_block bf
      have zbp := size_of_block bp
      have zbs := size_of_block bs
      have ze2 := size_of_block e2
      have cf0 := Joins.cell_of_block bf 0
      have cf1 := Joins.cell_of_block bf 1
      have cf2 := Joins.cell_of_block bf 2
      have cf3 := Joins.cell_of_block bf 3
      have cf4 := Joins.cell_of_block bf 4
      have cp0 := Joins.cell_of_block bp 0
      have cp1 := Joins.cell_of_block bp 1
      have cs0 := Joins.cell_of_block bs 0
      have cs1 := Joins.cell_of_block bs 1
      have ce0 := Joins.cell_of_block e2 0
      have ce1 := Joins.cell_of_block e2 1
      have ce2 := Joins.cell_of_block e2 2
      have ce3 := Joins.cell_of_block e2 3
      have ce4 := Joins.cell_of_block e2 4
      refine wp_region_grown_tail 12 (by kernel_rfl) (by kernel_rfl) fun hcg => ?_
      simp only [List.take_succ_cons, List.take_zero, List.drop_succ_cons, List.drop_zero]
      repeat (go_big_quiet_step ((go_at_call 59; exact Calls.grown (hc2 _))))
      refine wpQuiet_nil ?_
      intro _ hw'
      obtain ⟨g, hw''⟩ := hw'
      subst hw''
      clear hcg cf0 cf1 cf2 cf3 cf4 cp0 cp1 cs0 cs1 ce0 ce1 ce2 ce3 ce4
      have gb := g.b
      generalize g.val = V at gb ⊢
      clear g
      replace bf := (gb.block _ (size_of_block bf)).trans bf
      replace bp := (gb.block _ (size_of_block bp)).trans bp
      replace br := (gb.block _ (size_of_block br)).trans br
      replace bs := (gb.block _ (size_of_block bs)).trans bs
      replace e2 := (gb.block _ (size_of_block e2)).trans e2
      replace hbw := below_then hbw gb
      clear gb zbf zbp zbs ze2
      have fz := Joins.unfrozen_of_block bs 1
      have cz := Joins.cell_of_block bs 1
      have zV := size_of_block bs
      go_wp2_with fail
      have bs' := Joins.block_setCell (i := 1) bs (.int .i64 (min hi (x.hi + d2)))
      have bf' := (put_other (b := n3) (i := 1) (.int .i64 (min hi (x.hi + d2))) (show w.heap.size ≠ n3 by omega)).trans bf
      have bp' := (put_other (b := n3) (i := 1) (.int .i64 (min hi (x.hi + d2))) (show n1 ≠ n3 by omega)).trans bp
      have br' := (put_other (b := n3) (i := 1) (.int .i64 (min hi (x.hi + d2))) (show n2 ≠ n3 by omega)).trans br
      have e2' := (put_other (b := n3) (i := 1) (.int .i64 (min hi (x.hi + d2))) (show wr.heap.size ≠ n3 by omega)).trans e2
      have hbw' := below_set (i := 1) (v := .int .i64 (min hi (x.hi + d2))) hbw (show w.heap.size ≤ n3 by omega)
      clear fz cz zV
      clear bs bf bp br e2 hbw
      generalize V.setCell _ _ = W4 at bs' bf' bp' br' e2' hbw' ⊢
      have bs := bs'
      have bf := bf'
      have bp := bp'
      have br := br'
      have e2 := e2'
      have hbw := hbw'
      clear bs' bf' bp' br' e2' hbw'
      go_roundw
      case rel => exact ⟨j + 1, by omega, by go_num, bf, bp, br, by rw [t1.out, t2.out]; simpa using bs, hbw⟩
      case measure => simp [intOf]; omega
    · obtain rfl : j = f.ls.length := by omega
      rw [List.take_length] at bs
      have cf4 := Joins.cell_of_block bf 4
      have e0 := Joins.cell_of_block bs 0
      have e1 := Joins.cell_of_block bs 1
      have HP := Lib.hid (fun j : Nat => cell_setRow_same wr (n2) j _ #[.int .i64 (endLo f f.ls p), .int .i64 (endHi f f.ls p)] _ _ br)
      have BF := below_setRow hbw (show w.heap.size ≤ n2 by omega) #[.int .i64 (endLo f f.ls p), .int .i64 (endHi f f.ls p)]
      go_wp2_with (refine wpList_store_rowTo rfl 54 _ _ rfl rfl (n2) #[.int .i64 (endLo f f.ls p), .int .i64 (endHi f f.ls p)] rfl rfl 54 _ br (by kernel_rfl) rfl (by kernel_rfl) ?_)
      refine bodyPost_ret (v := .agg #[.int .i64 (endLo f f.ls p), .int .i64 (endHi f f.ls p)]) ?_ rfl ⟨rfl, BF⟩
      simp [results, Tryz.results82, go_sem, HP.out]
end Go.Proofs.YtjpoacffnpgjdaaGreat
/- The reference for fires: spots, asked (written by tools/genfref.py). -/
namespace Go.Proofs.YtjpoacffnpgjdaaGreat
open Go Go.RowKit Go.Shelf
attribute [local go_sem] Oper.semAt_some Rel RelAt RelUpon

theorem known_at {f : Fi} {l : List Int} {e : Int} (h : fireI f = 0) (h2 : firstE l = e) (h3 : e ≠ 0) : knownE f l = e := (known_further h (by rw [h2]; exact h3)).trans h2
theorem first_at0 {e : Int} {l : List Int} (h : e ≠ 0) : firstE (e :: l) = e := by unfold firstE; rw [if_pos h]
theorem first_next {e : Int} {l : List Int} (h : e = 0) : firstE (e :: l) = firstE l := by unfold firstE; rw [if_neg (by simp [h])]; cases l <;> rfl
theorem spots_r (v : Value) (l : List Spt) (w : World) (hv : Spts w w.heap.size v l) :
    Calls Tryz.prog 93 #[v] w fun e w' => e = .returned (.int .i64 (spotsI l)) ∧ Below w.heap.size w w' := by
  obtain ⟨A, cap, rfl, _, hn, hat⟩ := Spts.open_ hv
  have H := Lib.hid hat
  clear hat hv
  unfold spotsI
  by_cases h24 : 24 < l.length
  · rw [if_pos h24]
    have d1 : decide ((l.length : Int) > 24) = true := decide_eq_true (by omega)
    clear h24
    go_enter Tryz.func93, Tryz.ntmps93
    go_wp2_with fail
    go_ret
    exact ⟨rfl, Below.refl _ _⟩
  · rw [if_neg h24]
    have d1 : decide ((l.length : Int) > 24) = false := decide_eq_false (by omega)
    clear h24
    obtain ⟨R, hR⟩ : ∃ r : Int, r = if l.all spotB = true then 0 else 1 := ⟨_, rfl⟩
    rw [← hR]
    have HR := Lib.hid hR
    clear hR
    go_enter Tryz.func93, Tryz.ntmps93
    go_wp2_with fail
    go_loopw [3] (fun i wr => ∃ j : Nat, j ≤ l.length ∧ i = .int .i64 j ∧ Hid (∀ x ∈ l.take j, spotB x = true) ∧ Below w.heap.size w wr) (fun i _ => l.length - (intOf i).toNat)
    case atStart => exact ⟨0, Nat.zero_le _, rfl, by intro x hx; simp at hx, Below.refl _ _⟩
    case round =>
      obtain ⟨j, hj, rfl, hI, hbw⟩ := hrel
      by_cases hlt : j < l.length
      · obtain ⟨b, off, x, rfl, hb, hx0, x0, x1⟩ := H.out j hlt
        have hx := Lib.hid hx0
        clear hx0
        have c0 := (hbw.cell (p := ⟨b, off + j * 2, none⟩) hb).trans x0
        have c1 := (hbw.cell (p := ⟨b, off + j * 2 + 1, none⟩) hb).trans x1
        clear x0 x1
        have hcc := fun W => spot_r x W
        unfold sV at hcc
        cases hs : spotB x with
        | true =>
          rw [hs] at hcc
          have hI2 : Hid (∀ z ∈ l.take (j + 1), spotB z = true) := by
            intro z hz
            rw [take_snoc hx.out, List.mem_append, List.mem_singleton] at hz
            rcases hz with hz | rfl
            · exact hI.out z hz
            · exact hs
          clear hs
          go_wp2_with fail
          refine (hcc _).mono ?_
          rintro e w' ⟨rfl, hF⟩
          have B9 := below_then hbw hF
          clear hF
          go_wp2_with fail
          go_roundw
          case rel => exact ⟨j + 1, by omega, by go_num, hI2, B9⟩
          case measure => simp [intOf]; omega
        | false =>
          rw [hs] at hcc
          obtain rfl : R = 1 := by
            rw [HR.out, if_neg]
            intro h
            have := List.all_eq_true.1 h x (List.mem_of_getElem? hx.out)
            rw [hs] at this; cases this
          clear hs
          go_wp2_with fail
          refine (hcc _).mono ?_
          rintro e w' ⟨rfl, hF⟩
          have B9 := below_then hbw hF
          clear hF
          go_wp2_with fail
          go_ret
          exact ⟨rfl, B9⟩
      · obtain rfl : j = l.length := by omega
        obtain rfl : R = 0 := by
          rw [HR.out, if_pos]
          rw [List.all_eq_true]
          intro x hx
          exact hI.out x (by rw [List.take_length]; exact hx)
        go_wp2_with fail
        go_ret
        exact ⟨rfl, hbw⟩
set_option maxRecDepth 100000 in
set_option maxHeartbeats 4000000 in
theorem asked_r (f : Fi) (vl : Value) (v1 : Value) (l : List Spt) (w : World) (hl : Lks w w.heap.size vl f.ls) (h1 : Spts w w.heap.size v1 l) :
    Calls Tryz.prog 79 #[fiV f vl, v1] w fun e w' => e = .returned (.int .i64 (listE f l)) ∧ Below w.heap.size w w' := by
  obtain ⟨A, cap, rfl⟩ := hl.form
  obtain ⟨A1, cap1, rfl⟩ := h1.form
  have HK := Lib.hid hl
  clear hl
  have H1 := Lib.hid h1
  clear h1
  obtain ⟨R, hR⟩ : ∃ r, r = listE f l := ⟨_, rfl⟩
  rw [← hR]
  have HR := Lib.hid hR
  clear hR
  have x1 := fun W h => spots_r (.slice A1 l.length cap1) l W h
  have x0 := fun W h => CheckR_c f (.slice A f.ls.length cap) W h
  by_cases hf : fireI f = 0
  · have HF : Hid (fireI f = 0) := hf
    have HOK := Lib.hid (fire_ok hf)
    rw [hf] at x0
    clear hf
    by_cases hq1 : spotsI l = 0
    · have HQ1 : Hid (spotsI l = 0) := hq1
      rw [hq1] at x1
      clear hq1
      cases hag : agreeB f f.ls with
      | false =>
        obtain rfl : R = 9 := by rw [HR.out]; exact known_clash HF.out ((first_next HQ1.out).trans rfl) hag
        have X0 := Lib.hid x0
        clear x0
        unfold fiV
        go_enter Tryz.func79, Tryz.ntmps79
        have bf := heap_alloc_new w (.cells #[.int .i64 f.rise, .int .i64 f.fall, .int .i64 f.up, .int .i64 f.down, .slice A f.ls.length cap] 24)
        have HB := below_alloc w (.cells #[.int .i64 f.rise, .int .i64 f.fall, .int .i64 f.up, .int .i64 f.down, .slice A f.ls.length cap] 24)
        go_wp2_with fail
        generalize (w.alloc (.cells #[.int .i64 f.rise, .int .i64 f.fall, .int .i64 f.up, .int .i64 f.down, .slice A f.ls.length cap] 24)) = w1 at bf HB  ⊢
        have hB := HB
        clear HB
        have hk := HK.out.later hB
        have h1 := H1.out.later hB
        refine (X0.out w1 hk).mono ?_
        rintro e w2 ⟨rfl, hF⟩
        replace bf := (hF.block _ (size_of_block bf)).trans bf
        replace hk := hk.later hF
        replace h1 := h1.later hF
        replace hB := below_then hB hF
        clear hF
        go_wp2_with fail
        refine (x1 w2 h1).mono ?_
        rintro e w3 ⟨rfl, hF⟩
        replace bf := (hF.block _ (size_of_block bf)).trans bf
        replace hk := hk.later hF
        replace h1 := h1.later hF
        replace hB := below_then hB hF
        clear hF
        have cbf0 := Joins.cell_of_block bf 0
        have cbf1 := Joins.cell_of_block bf 1
        have cbf2 := Joins.cell_of_block bf 2
        have cbf3 := Joins.cell_of_block bf 3
        have cbf4 := Joins.cell_of_block bf 4
        go_wp2_with fail
        refine (agree_r f (.slice A f.ls.length cap) w3 hk HOK.out.slope HOK.out.look).mono ?_
        rintro e w4 ⟨rfl, hF⟩
        clear cbf0 cbf1 cbf2 cbf3 cbf4
        replace bf := (hF.block _ (size_of_block bf)).trans bf
        replace hk := hk.later hF
        replace h1 := h1.later hF
        replace hB := below_then hB hF
        clear hF
        rw [hag]
        go_wp2_with fail
        refine bodyPost_ret (v := .int .i64 9) ?_ rfl ⟨rfl, hB⟩
        simp [results, Tryz.results79, go_sem]
      | true =>
        obtain rfl : R = 0 := by rw [HR.out]; exact known_ok HF.out ((first_next HQ1.out).trans rfl) hag
        have X0 := Lib.hid x0
        clear x0
        unfold fiV
        go_enter Tryz.func79, Tryz.ntmps79
        have bf := heap_alloc_new w (.cells #[.int .i64 f.rise, .int .i64 f.fall, .int .i64 f.up, .int .i64 f.down, .slice A f.ls.length cap] 24)
        have HB := below_alloc w (.cells #[.int .i64 f.rise, .int .i64 f.fall, .int .i64 f.up, .int .i64 f.down, .slice A f.ls.length cap] 24)
        go_wp2_with fail
        generalize (w.alloc (.cells #[.int .i64 f.rise, .int .i64 f.fall, .int .i64 f.up, .int .i64 f.down, .slice A f.ls.length cap] 24)) = w1 at bf HB  ⊢
        have hB := HB
        clear HB
        have hk := HK.out.later hB
        have h1 := H1.out.later hB
        refine (X0.out w1 hk).mono ?_
        rintro e w2 ⟨rfl, hF⟩
        replace bf := (hF.block _ (size_of_block bf)).trans bf
        replace hk := hk.later hF
        replace h1 := h1.later hF
        replace hB := below_then hB hF
        clear hF
        go_wp2_with fail
        refine (x1 w2 h1).mono ?_
        rintro e w3 ⟨rfl, hF⟩
        replace bf := (hF.block _ (size_of_block bf)).trans bf
        replace hk := hk.later hF
        replace h1 := h1.later hF
        replace hB := below_then hB hF
        clear hF
        have cbf0 := Joins.cell_of_block bf 0
        have cbf1 := Joins.cell_of_block bf 1
        have cbf2 := Joins.cell_of_block bf 2
        have cbf3 := Joins.cell_of_block bf 3
        have cbf4 := Joins.cell_of_block bf 4
        go_wp2_with fail
        refine (agree_r f (.slice A f.ls.length cap) w3 hk HOK.out.slope HOK.out.look).mono ?_
        rintro e w4 ⟨rfl, hF⟩
        clear cbf0 cbf1 cbf2 cbf3 cbf4
        replace bf := (hF.block _ (size_of_block bf)).trans bf
        replace hk := hk.later hF
        replace h1 := h1.later hF
        replace hB := below_then hB hF
        clear hF
        rw [hag]
        go_wp2_with fail
        refine bodyPost_ret (v := .int .i64 0) ?_ rfl ⟨rfl, hB⟩
        simp [results, Tryz.results79, go_sem]
    · obtain rfl : R = spotsI l := by rw [HR.out]; exact known_at HF.out (first_at0 hq1) hq1
      have d9 : (spotsI l != 0) = true := by simpa using hq1
      clear hq1 HR
      generalize spotsI l = E at x1 d9 ⊢
      have X0 := Lib.hid x0
      clear x0
      unfold fiV
      go_enter Tryz.func79, Tryz.ntmps79
      have bf := heap_alloc_new w (.cells #[.int .i64 f.rise, .int .i64 f.fall, .int .i64 f.up, .int .i64 f.down, .slice A f.ls.length cap] 24)
      have HB := below_alloc w (.cells #[.int .i64 f.rise, .int .i64 f.fall, .int .i64 f.up, .int .i64 f.down, .slice A f.ls.length cap] 24)
      go_wp2_with fail
      generalize (w.alloc (.cells #[.int .i64 f.rise, .int .i64 f.fall, .int .i64 f.up, .int .i64 f.down, .slice A f.ls.length cap] 24)) = w1 at bf HB  ⊢
      have hB := HB
      clear HB
      have hk := HK.out.later hB
      have h1 := H1.out.later hB
      refine (X0.out w1 hk).mono ?_
      rintro e w2 ⟨rfl, hF⟩
      replace bf := (hF.block _ (size_of_block bf)).trans bf
      replace hk := hk.later hF
      replace h1 := h1.later hF
      replace hB := below_then hB hF
      clear hF
      go_wp2_with fail
      refine (x1 w2 h1).mono ?_
      rintro e w3 ⟨rfl, hF⟩
      replace bf := (hF.block _ (size_of_block bf)).trans bf
      replace hk := hk.later hF
      replace h1 := h1.later hF
      replace hB := below_then hB hF
      clear hF
      go_wp2_with fail
      refine bodyPost_ret (v := .int .i64 E) ?_ rfl ⟨rfl, hB⟩
      simp [results, Tryz.results79, go_sem]
  · obtain rfl : R = fireI f := by rw [HR.out]; exact known_fire hf
    have d1 : (fireI f != 0) = true := by simpa using hf
    clear hf
    clear HR
    generalize fireI f = E at x0 d1 ⊢
    have X0 := Lib.hid x0
    clear x0
    unfold fiV
    go_enter Tryz.func79, Tryz.ntmps79
    have bf := heap_alloc_new w (.cells #[.int .i64 f.rise, .int .i64 f.fall, .int .i64 f.up, .int .i64 f.down, .slice A f.ls.length cap] 24)
    have HB := below_alloc w (.cells #[.int .i64 f.rise, .int .i64 f.fall, .int .i64 f.up, .int .i64 f.down, .slice A f.ls.length cap] 24)
    go_wp2_with fail
    generalize (w.alloc (.cells #[.int .i64 f.rise, .int .i64 f.fall, .int .i64 f.up, .int .i64 f.down, .slice A f.ls.length cap] 24)) = w1 at bf HB  ⊢
    have hB := HB
    clear HB
    have hk := HK.out.later hB
    have h1 := H1.out.later hB
    refine (X0.out w1 hk).mono ?_
    rintro e w2 ⟨rfl, hF⟩
    replace bf := (hF.block _ (size_of_block bf)).trans bf
    replace hk := hk.later hF
    replace h1 := h1.later hF
    replace hB := below_then hB hF
    clear hF
    go_wp2_with fail
    refine bodyPost_ret (v := .int .i64 E) ?_ rfl ⟨rfl, hB⟩
    simp [results, Tryz.results79, go_sem]
end Go.Proofs.YtjpoacffnpgjdaaGreat
