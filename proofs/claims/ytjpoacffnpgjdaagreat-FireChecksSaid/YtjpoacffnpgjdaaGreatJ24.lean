/- Texts joined: FRefP FRefQ FRefR FRefS FRefU FRefV. -/
import Derived.Test.YtjpoacffnpgjdaaGreatJ23
import Derived.Test.YtjpoacffnpgjdaaGreatJ17
/- The reference for fires: CheckPath. -/
namespace Go.Proofs.YtjpoacffnpgjdaaGreat
open Go Go.RowKit Go.Shelf

set_option maxRecDepth 100000 in
set_option maxHeartbeats 4000000 in
theorem CheckPathR_c (v : Value) (l : List Spt) (w : World) (hv : Spts w w.heap.size v l) :
    Calls Tryz.prog 45 #[v] w fun e w' => e = .returned (.int .i64 (pathI l)) ∧ Below w.heap.size w w' := by
  obtain ⟨A, cap, rfl, _, hn, hat⟩ := Spts.open_ hv
  have H := Lib.hid hat
  clear hat hv
  unfold pathI
  by_cases h24 : 200 < l.length
  · rw [if_pos h24]
    have d1 : decide ((l.length : Int) > 200) = true := decide_eq_true (by omega)
    clear h24
    go_enter Tryz.func45, Tryz.ntmps45
    go_wp2_with fail
    go_ret
    exact ⟨rfl, Below.refl _ _⟩
  · rw [if_neg h24]
    have d1 : decide ((l.length : Int) > 200) = false := decide_eq_false (by omega)
    clear h24
    by_cases h0 : l = []
    · rw [if_pos h0]
      subst h0
      go_enter Tryz.func45, Tryz.ntmps45
      go_wp2_with fail
      go_ret
      exact ⟨rfl, Below.refl _ _⟩
    · rw [if_neg h0]
      have hpos : 0 < l.length := List.length_pos_iff.2 h0
      have d2 : ((l.length : Int) == 0) = false := by rw [beq_eq_false_iff_ne]; omega
      clear h0
      obtain ⟨R, hR⟩ : ∃ r : Int, r = if (l.all spotB && chainB l) = true then 0 else 1 := ⟨_, rfl⟩
      rw [← hR]
      have HR := Lib.hid hR
      clear hR hpos
      go_enter Tryz.func45, Tryz.ntmps45
      go_wp2_with fail
      go_loopw [3] (fun i wr => ∃ j : Nat, j ≤ l.length ∧ i = .int .i64 j ∧ Hid (∀ x ∈ l.take j, spotB x = true) ∧ Hid (∀ (i : Nat) x y, i + 1 < j → l[i]? = some x → l[i + 1]? = some y → y.hour = x.hour + 1) ∧ Below w.heap.size w wr) (fun i _ => l.length - (intOf i).toNat)
      case atStart => exact ⟨0, Nat.zero_le _, rfl, by intro x hx; simp at hx, by intro i x y h; omega, Below.refl _ _⟩
      case round =>
        obtain ⟨j, hj, rfl, hI, hJ, hbw⟩ := hrel
        by_cases hlt : j < l.length
        · obtain ⟨b, off, x, rfl, hb, hx0, x0, x1⟩ := H.out j hlt
          have hx := Lib.hid hx0
          clear hx0
          have c0 := (hbw.cell (p := ⟨b, off + j * 2, none⟩) hb).trans x0
          have c1 := (hbw.cell (p := ⟨b, off + j * 2 + 1, none⟩) hb).trans x1
          have hcc := fun W => spot_r x W
          unfold sV at hcc
          cases hs : spotB x with
          | false =>
            rw [hs] at hcc
            obtain rfl : R = 1 := by
              rw [HR.out, if_neg]
              intro h
              rw [Bool.and_eq_true] at h
              have := List.all_eq_true.1 h.1 x (List.mem_of_getElem? hx.out)
              rw [hs] at this; cases this
            clear hs x0 x1
            go_wp2_with fail
            refine (hcc _).mono ?_
            rintro e w' ⟨rfl, hF⟩
            have B9 := below_then hbw hF
            clear hF hbw c0 c1
            go_wp2_with fail
            refine wp_region_grown (by kernel_rfl) (by kernel_rfl) fun hcg => ?_
            repeat (go_big_quiet_step (fail))
            refine wpQuiet_nil ?_
            intro _ hw'
            obtain ⟨g, hw''⟩ := hw'
            subst hw''
            have B8 := below_then B9 g.b
            go_wp2_with fail
            go_ret
            exact ⟨rfl, B8⟩
          | true =>
            rw [hs] at hcc
            have hI2 : Hid (∀ z ∈ l.take (j + 1), spotB z = true) := by
              intro z hz
              rw [take_snoc hx.out, List.mem_append, List.mem_singleton] at hz
              rcases hz with hz | rfl
              · exact hI.out z hz
              · exact hs
            clear hs
            cases j with
            | zero =>
              clear x0 x1
              simp only [Nat.zero_mul, Nat.add_zero] at c0 c1
              go_wp2_with fail
              refine (hcc _).mono ?_
              rintro e w' ⟨rfl, hF⟩
              have B9 := below_then hbw hF
              clear hF hbw c0 c1
              go_wp2_with fail
              refine wp_region_grown (by kernel_rfl) (by kernel_rfl) fun hcg => ?_
              repeat (go_big_quiet_step (fail))
              refine wpQuiet_nil ?_
              intro _ hw'
              obtain ⟨g, hw''⟩ := hw'
              subst hw''
              have B8 := below_then B9 g.b
              go_wp2_with fail
              go_roundw
              case rel => exact ⟨1, by omega, by go_num, hI2, by intro i x y h; omega, B8⟩
              case measure => simp [intOf]; omega
            | succ m =>
              obtain ⟨b2, off2, y, e2, _, hy0, y0, y1⟩ := H.out m (by omega)
              cases e2
              have hy := Lib.hid hy0
              have hym : y ∈ l.take (m + 1) := by
                obtain ⟨h1, h2⟩ := List.getElem?_eq_some_iff.1 hy0
                rw [List.mem_take_iff_getElem]
                exact ⟨m, by omega, h2⟩
              have ys := (spot_iff.1 (hI.out y hym)).2
              obtain ⟨ys1, ys2⟩ := ys
              clear hy0 hym
              have hmx : max (0 : Int) (m : Int) = m := by omega
              have hwr : IntKind.i64.wrap (y.hour + 1) = y.hour + 1 := by rw [IntKind.wrap_i64]; omega
              by_cases hc : x.hour = y.hour + 1
              · have d3 : (x.hour != y.hour + 1) = false := by simpa using hc
                have hJ2 : Hid (∀ (i : Nat) x y, i + 1 < m + 1 + 1 → l[i]? = some x → l[i + 1]? = some y → y.hour = x.hour + 1) := by
                  intro i x' y' hi hx' hy'
                  rcases Nat.lt_succ_iff_lt_or_eq.1 hi with hi | hi
                  · exact hJ.out i x' y' hi hx' hy'
                  · obtain rfl : i = m := by omega
                    have e1 := hy.out.symm.trans hx'; have e2 := hx.out.symm.trans hy'; cases e1; cases e2; exact hc
                clear hc
                go_wp2_with fail
                refine (hcc _).mono ?_
                rintro e w' ⟨rfl, hF⟩
                have B9 := below_then hbw hF
                have k0 := (B9.cell (p := ⟨b, off + (m + 1) * 2, none⟩) hb).trans x0
                have k1 := (B9.cell (p := ⟨b, off + (m + 1) * 2 + 1, none⟩) hb).trans x1
                have l1 := (B9.cell (p := ⟨b, off + m * 2 + 1, none⟩) hb).trans y1
                have hzb : b < w'.heap.size := Nat.lt_of_lt_of_le hb B9.size
                clear hF hbw c0 c1 x0 x1 y0 y1
                go_wp2_with fail
                refine wp_region_grown (by kernel_rfl) (by kernel_rfl) fun hcg => ?_
                repeat (go_big_quiet_step (fail))
                refine wpQuiet_nil ?_
                intro _ hw'
                obtain ⟨g, hw''⟩ := hw'
                subst hw''
                have B8 := below_then B9 g.b
                go_wp2_with fail
                go_roundw
                case rel => exact ⟨m + 1 + 1, by omega, by go_num, hI2, hJ2, B8⟩
                case measure => simp [intOf]; omega
              · have d3 : (x.hour != y.hour + 1) = true := by simpa using hc
                obtain rfl : R = 1 := by
                  rw [HR.out, if_neg]
                  intro h
                  rw [Bool.and_eq_true] at h
                  exact hc (chain_at h.2 hy.out hx.out)
                clear hc
                go_wp2_with fail
                refine (hcc _).mono ?_
                rintro e w' ⟨rfl, hF⟩
                have B9 := below_then hbw hF
                have k0 := (B9.cell (p := ⟨b, off + (m + 1) * 2, none⟩) hb).trans x0
                have k1 := (B9.cell (p := ⟨b, off + (m + 1) * 2 + 1, none⟩) hb).trans x1
                have l1 := (B9.cell (p := ⟨b, off + m * 2 + 1, none⟩) hb).trans y1
                have hzb : b < w'.heap.size := Nat.lt_of_lt_of_le hb B9.size
                clear hF hbw c0 c1 x0 x1 y0 y1
                go_wp2_with fail
                refine wp_region_grown (by kernel_rfl) (by kernel_rfl) fun hcg => ?_
                repeat (go_big_quiet_step (fail))
                refine wpQuiet_nil ?_
                intro _ hw'
                obtain ⟨g, hw''⟩ := hw'
                subst hw''
                have B8 := below_then B9 g.b
                go_wp2_with fail
                go_ret
                exact ⟨rfl, B8⟩
        · obtain rfl : j = l.length := by omega
          obtain rfl : R = 0 := by
            rw [HR.out, if_pos]
            rw [Bool.and_eq_true, List.all_eq_true]
            refine ⟨fun x hx => hI.out x (by rw [List.take_length]; exact hx), chain_of fun j x y hx hy => hJ.out j x y ?_ hx hy⟩
            exact (List.getElem?_eq_some_iff.1 hy).1
          go_wp2_with fail
          go_ret
          exact ⟨rfl, hbw⟩
end Go.Proofs.YtjpoacffnpgjdaaGreat
/- The reference for fires: heats along a path, the rows of heats. -/
namespace Go.Proofs.YtjpoacffnpgjdaaGreat
open Go Go.RowKit Go.Shelf
attribute [local go_sem] Oper.semAt_some Rel RelAt RelUpon

def endB (b : Bool) (f : Fi) (ls : List Lk) (p : Spt) : Int := if b then endHi f ls p else endLo f ls p
set_option maxRecDepth 100000 in
set_option maxHeartbeats 4000000 in
theorem along_r (f : Fi) (vl v : Value) (l : List Spt) (high : Bool) (w : World) (hl : Lks w w.heap.size vl f.ls) (hv : Spts w w.heap.size v l) (hf : slopeB f = true) (hk : ∀ x ∈ f.ls, lookB x = true) (hs : ∀ p ∈ l, spotB p = true) (hlen : l.length ≤ 5000) :
    Calls Tryz.prog 99 #[fiV f vl, v, .bool high] w fun e w' => ∃ u, e = .returned u ∧ w'.ownsRow w.heap.size 3 1 u l.length ((l.map (endB high f f.ls)).map (Value.int .i64)) ∧ Below w.heap.size w w' := by
  obtain ⟨A0, cap0, rfl⟩ := hl.form
  obtain ⟨A, cap, rfl, _, hn, hat⟩ := Spts.open_ hv
  have H := Lib.hid hat
  clear hat hv
  have HK := Lib.hid hl
  clear hl
  obtain ⟨i0, hi, hz0, hz1, hz2⟩ := info_parts Tryz.infoIntF
  have HI := Lib.hid hi
  have HI0 := Lib.hid hz0
  have HI1 := Lib.hid hz1
  have HI2 := Lib.hid hz2
  clear hi hz0 hz1 hz2
  have HE := Lib.hid (fun W p (hp : p ∈ l) h => ends_r f (.slice A0 f.ls.length cap0) p W h hf hk (hs p hp))
  clear hf hk hs
  have q0 := heap_alloc_new w (.cells #[.int .i64 f.rise, .int .i64 f.fall, .int .i64 f.up, .int .i64 f.down, .slice A0 f.ls.length cap0] 24)
  have qb := below_alloc w (.cells #[.int .i64 f.rise, .int .i64 f.fall, .int .i64 f.up, .int .i64 f.down, .slice A0 f.ls.length cap0] 24)
  unfold fiV sV at HE
  unfold fiV
  go_enter Tryz.func99, Tryz.ntmps99
  go_wp2_with fail
  generalize w.alloc _ = W1 at q0 qb ⊢
  go_loopw [7, 8] (fun v i wr => ∃ j : Nat, j ≤ l.length ∧ i = .int .i64 j ∧ wr.ownsRow w.heap.size 3 1 v (0 + j) (((l.take j).map (endB high f f.ls)).map (Value.int .i64)) ∧ wr.heap[w.heap.size]? = some (.cells #[.int .i64 f.rise, .int .i64 f.fall, .int .i64 f.up, .int .i64 f.down, .slice A0 f.ls.length cap0] 24) ∧ Below w.heap.size w wr) (fun _ i _ => l.length - (intOf i).toNat)
  case atStart => exact ⟨0, Nat.zero_le _, rfl, by simpa using World.ownsRow_nil _ _ _ _, q0, qb⟩
  case round =>
    clear q0 qb
    obtain ⟨j, hj, rfl, hown, bf, hbw⟩ := hrel
    have hbs := hbw.size
    by_cases hlt : j < l.length
    · obtain ⟨b, off, p, rfl, hb, hx0, c0, c1⟩ := H.out j hlt
      have hx := Lib.hid hx0
      have hcc := fun W h => HE.out W p (List.mem_of_getElem? hx0) h
      clear hx0
      have hB := hbw
      have hlo : Hid (endB high f f.ls p = if high then endHi f f.ls p else endLo f f.ls p) := rfl
      generalize endLo f f.ls p = lo at hcc hlo
      generalize endHi f f.ls p = hi at hcc hlo
      have zq := size_of_block bf
      have cf0 := Joins.cell_of_block bf 0
      go_wp2_with fail
      refine wp_region_looseM [] [0, 1, 2, 3, 4] (.one 5 .done) [6] [] [7] [some 9] [.cells #[.int .i64 0, .int .i64 0] 54] (by kernel_rfl) (by kernel_rfl) (by intro c a d v w h; cases d <;> exact h) (by intro c a d v w h; cases d <;> exact h) rfl (by intro r i hri; match r, hri with | 0, hri => cases hri; exact ⟨_, _, rfl, rfl, rfl, rfl, fun a u => by simp [execOp, go_sem, ptrV]⟩) ?_
      simp only [pick, List.filterMap_cons, List.filterMap_nil, List.getElem?_toArray, List.getElem?_cons_succ, List.getElem?_cons_zero]
      intro u hu
      clear cf0 zq
      have tf := (hu.block _ (size_of_block bf)).trans bf
      have ztf := size_of_block tf
      have k0 := Joins.cell_of_block tf 0
      have k1 := Joins.cell_of_block tf 1
      have k2 := Joins.cell_of_block tf 2
      have k3 := Joins.cell_of_block tf 3
      have k4 := Joins.cell_of_block tf 4
      have B1 := below_then hbw hu
      have e0 := (B1.cell (p := ⟨b, off + j * 2, none⟩) hb).trans c0
      have e1 := (B1.cell (p := ⟨b, off + j * 2 + 1, none⟩) hb).trans c1
      have hzu : b < u.heap.size := Nat.lt_of_lt_of_le hb B1.size
      have hcg : ∀ (g : Gr u) b o, b < u.heap.size → g.val.cell? ⟨b, o, none⟩ = u.cell? ⟨b, o, none⟩ := fun g b o h => (bcell g.b).1 b o h
      clear c0 c1
      iterate 5 (refine wpRel_step (fun K hK => ?_); go_simp; refine hK _ ?_; clear hK K)
      refine wpRel_nil fun V0 hb0 => ?_
      clear hcg tf ztf k0 k1 k2 k3 k4 e0 e1 hzu B1
      have D0 := below_then hu hb0
      clear hb0 hu
      refine wpTr_step rfl rfl fun K hK => ?_
      go_simp
      refine (hcc V0 (HK.out.later (below_then hbw D0))).mono ?_
      rintro e X ⟨rfl, hx9⟩
      refine hK _ _ hx9 fun V2 hu2 => ?_
      clear hK K
      have D2 := below_then D0 (below_then hx9 hu2)
      clear hx9 hu2 D0
      show wpPure _ _ _ _
      intro ks hks hall hH
      obtain ⟨k1, rfl⟩ : ∃ k1, ks = [some k1] := by
        match ks, hks with
        | [none], _ => exact absurd rfl (hall 0)
        | [some k1], _ => exact ⟨k1, rfl⟩
      obtain ⟨o1, ge1, lt1⟩ := hH.obj 0 k1 rfl
      rw [show ([Obj.cells #[.int .i64 0, .int .i64 0] 54])[0]? = some (.cells #[.int .i64 0, .int .i64 0] 54) from rfl] at o1
      clear hH hall hks
      show wpList _ _ _ _ _ _
      simp only [deco, ptrV]
      refine wpList_store_rowTo rfl 54 _ _ rfl rfl k1 #[.int .i64 lo, .int .i64 hi] rfl rfl 54 _ o1 (by kernel_rfl) rfl (by kernel_rfl) ?_
      have bl := setRow_heap V2 k1 _ #[.int .i64 lo, .int .i64 hi] _ _ o1
      have HB := below_setRow D2 ge1 #[.int .i64 lo, .int .i64 hi]
      clear o1 ge1 lt1 D2
      generalize V2.setRow k1 #[.int .i64 lo, .int .i64 hi] = wL at bl HB ⊢
      have o3 := own_below hown HB
      have B3 := below_then hbw HB
      have n3 := B3.size
      replace bf := (HB.block _ (size_of_block bf)).trans bf
      clear HB hown hbw hB hbs
      have e0 := Joins.cell_of_block bl 0
      have e1 := Joins.cell_of_block bl 1
      have zbl := size_of_block bl
      have bfA := fun o => ((below_alloc wL o).block _ (size_of_block bf)).trans bf
      cases high with
      | true =>
        have hlo2 : Hid (endB true f f.ls p = hi) := by show _ = _; rw [hlo.out]; rfl
        clear hlo
        go_wp2_with (at_builtin; refine wpList_append_own _ rfl _ _ 27 rfl w.heap.size 3 i0 (.int .i64 0) 1 8 Tryz.underlying27 HI.out HI0.out HI1.out HI2.out rfl (by decide) _ _ _ rfl (o3.alloc _) ⟨wL.heap.size, 0, none⟩ 1 1 [.int .i64 hi] rfl rfl (cell_one_new _ _ _) (one_oneCell rfl) ?c3 ?c4 ?c5 ?_)
        case c3 => unfold maxLen; omega
        case c4 => omega
        case c5 => simp; omega
        intro v' w1 hown' hgrow _
        have hB1 := below_append B3 (by omega) o3 hgrow
        have bf' := (hgrow.block _ (size_of_block (bfA (.cells #[.int .i64 hi] 3))) (Ne.symm (own_ne_block (o3.alloc (.cells #[.int .i64 hi] 3)) (bfA (.cells #[.int .i64 hi] 3)) (by decide)))).trans (bfA (.cells #[.int .i64 hi] 3))
        clear hgrow o3 B3
        go_wp2_with fail
        go_roundw
        case rel => exact ⟨j + 1, by omega, by go_num, by rw [take_snoc hx.out, List.map_append, List.map_append]; simp only [List.map_cons, List.map_nil, hlo2.out]; simpa [Nat.add_assoc] using hown', bf', hB1⟩
        case measure => simp [intOf]; omega
      | false =>
        have hlo2 : Hid (endB false f f.ls p = lo) := by show _ = _; rw [hlo.out]; rfl
        clear hlo
        go_wp2_with (at_builtin; refine wpList_append_own _ rfl _ _ 27 rfl w.heap.size 3 i0 (.int .i64 0) 1 8 Tryz.underlying27 HI.out HI0.out HI1.out HI2.out rfl (by decide) _ _ _ rfl (o3.alloc _) ⟨wL.heap.size, 0, none⟩ 1 1 [.int .i64 lo] rfl rfl (cell_one_new _ _ _) (one_oneCell rfl) ?c3 ?c4 ?c5 ?_)
        case c3 => unfold maxLen; omega
        case c4 => omega
        case c5 => simp; omega
        intro v' w1 hown' hgrow _
        have hB1 := below_append B3 (by omega) o3 hgrow
        have bf' := (hgrow.block _ (size_of_block (bfA (.cells #[.int .i64 lo] 3))) (Ne.symm (own_ne_block (o3.alloc (.cells #[.int .i64 lo] 3)) (bfA (.cells #[.int .i64 lo] 3)) (by decide)))).trans (bfA (.cells #[.int .i64 lo] 3))
        clear hgrow o3 B3
        go_wp2_with fail
        go_roundw
        case rel => exact ⟨j + 1, by omega, by go_num, by rw [take_snoc hx.out, List.map_append, List.map_append]; simp only [List.map_cons, List.map_nil, hlo2.out]; simpa [Nat.add_assoc] using hown', bf', hB1⟩
        case measure => simp [intOf]; omega
    · obtain rfl : j = l.length := by omega
      rw [List.take_length] at hown
      go_wp2_with fail
      go_ret
      exact ⟨_, rfl, by simpa using hown, hbw⟩
end Go.Proofs.YtjpoacffnpgjdaaGreat
/- The reference for fires: the rows of heats. -/
namespace Go.Proofs.YtjpoacffnpgjdaaGreat
open Go Go.RowKit Go.Shelf

set_option maxRecDepth 100000 in
set_option maxHeartbeats 2000000 in
theorem steps_r (v : Value) (hs : List Int) (need : Int) (w : World) (hv : Ints w w.heap.size v hs) (hlen : hs.length ≤ 5000) :
    Calls Tryz.prog 101 #[v, .int .i64 need] w fun e w' => ∃ u, e = .returned u ∧ w'.ownsRow w.heap.size 54 2 u (rowsI hs need).length ((rowsI hs need).flatMap spnC) ∧ Below w.heap.size w w' := by
  obtain ⟨A, cap, rfl, _, hn, hat⟩ := hv.open_
  have H := Lib.hid hat
  clear hat hv
  obtain ⟨i0, hi, hz0, hz1, hz2⟩ := info_parts Tryz.infoSpanF
  have HI := Lib.hid hi
  have HI0 := Lib.hid hz0
  have HI1 := Lib.hid hz1
  have HI2 := Lib.hid hz2
  clear hi hz0 hz1 hz2
  go_enter Tryz.func101, Tryz.ntmps101
  go_wp2_with fail
  go_loopw [5, 6] (fun v i wr => ∃ j : Nat, j ≤ hs.length ∧ i = .int .i64 j ∧ wr.ownsRow w.heap.size 54 2 v (rowsF hs need j).length ((rowsF hs need j).flatMap spnC) ∧ Below w.heap.size w wr) (fun _ i _ => hs.length - (intOf i).toNat)
  case atStart => exact ⟨0, Nat.zero_le _, rfl, World.ownsRow_nil _ _ _ _, Below.refl _ _⟩
  case round =>
    obtain ⟨j, hj, rfl, hown, hbw⟩ := hrel
    have hbs := hbw.size
    by_cases hlt : j < hs.length
    · obtain ⟨b, off, x, rfl, hb, hx0, c0⟩ := H.out j hlt
      have hx := Lib.hid hx0
      have d0 := (hbw.cell (p := ⟨b, off + j, none⟩) hb).trans c0
      have hzb : b < wr.heap.size := Nat.lt_of_lt_of_le hb hbs
      clear hx0 c0
      have hll := rows_len hs need hj
      by_cases hc : x < need
      · have d1 : decide (x < need) = true := decide_eq_true hc
        rw [← rows_cold hx.out hc] at hown
        clear hll
        go_wp2_with fail
        go_roundw
        case rel => exact ⟨j + 1, by omega, by go_num, hown, hbw⟩
        case measure => simp [intOf]; omega
      · have d1 : decide (x < need) = false := decide_eq_false hc
        have hr := Lib.hid (rows_hot (l := hs) hx.out hc)
        clear hc
        rcases List.eq_nil_or_concat (rowsF hs need j) with hE | ⟨R, r, hE⟩
        · rw [hE] at hown hr hll
          have hr2 : Hid (rowsF hs need (j + 1) = [⟨(j : Int), (j : Int)⟩]) := hr.out.trans (rowStep_none _)
          clear hE hr
          obtain ⟨A', cap', rfl⟩ := own_form hown
          go_wp2_with (at_builtin; refine wpList_append_own _ rfl _ _ 80 rfl w.heap.size 54 i0 (.agg #[.int .i64 0, .int .i64 0]) 2 16 Tryz.underlying80 HI.out HI0.out HI1.out HI2.out rfl (by decide) _ _ _ rfl (hown.alloc _) ⟨wr.heap.size, 0, none⟩ 1 1 [.int .i64 (j : Int), .int .i64 (j : Int)] rfl rfl ?c1 ?c2 ?c3 ?c4 ?c5 ?_)
          case c1 => have := cells_new wr [.int .i64 (j : Int), .int .i64 (j : Int)] 54; simpa using this
          case c2 => intro u hu; simp at hu; rcases hu with rfl | rfl <;> rfl
          case c3 => unfold maxLen; omega
          case c4 => omega
          case c5 => simp; omega
          intro v' w1 hown' hgrow _
          have hB1 := below_append hbw (by omega) hown hgrow
          clear hgrow hown hbw
          go_wp2_with fail
          go_roundw
          case rel => exact ⟨j + 1, by omega, by go_num, by rw [hr2.out]; simpa [spnC, Nat.add_assoc] using hown', hB1⟩
          case measure => simp [intOf]; omega
        · rw [List.concat_eq_append] at hE
          rw [hE] at hown hr hll
          clear hE
          have hl : (R ++ [r]).length = R.length + 1 := by simp
          rw [hl] at hown hll
          have hcell := (hown.form (by omega))
          obtain ⟨g, cap', rfl, hg1, hg2⟩ := hcell
          have hmx : max (0 : Int) (R.length : Int) = R.length := by omega
          have c1 := (hown.cellAt (R.length * 2 + 1) (by omega)).trans (flat_last R r)
          have f1 := hown.frozenAt (R.length * 2 + 1)
          have FS := Lib.hid (flat_set R r (j : Int))
          have hst := Lib.hid (hown.stored (R.length * 2 + 1) (.int .i64 (j : Int)))
          by_cases he : r.hi = (j : Int) - 1
          · have hr2 : Hid (rowsF hs need (j + 1) = R ++ [⟨r.lo, (j : Int)⟩]) := hr.out.trans (rowStep_on he)
            have d2 : (r.hi == (j : Int) - 1) = true := by simpa using he
            clear he hr hl
            go_wp2_with fail
            refine ⟨⟨j + 1, by omega, by go_num, ?_, below_set hbw hg1⟩, by simp [intOf]; omega⟩
            rw [hr2.out]
            have h1 := hst.out.1
            rw [FS.out] at h1
            simpa using h1
          · have hr2 : Hid (rowsF hs need (j + 1) = R ++ [r] ++ [⟨(j : Int), (j : Int)⟩]) := hr.out.trans (rowStep_new he)
            have d2 : (r.hi == (j : Int) - 1) = false := by simpa using he
            clear he hr hl hst FS
            go_wp2_with (at_builtin; refine wpList_append_own _ rfl _ _ 80 rfl w.heap.size 54 i0 (.agg #[.int .i64 0, .int .i64 0]) 2 16 Tryz.underlying80 HI.out HI0.out HI1.out HI2.out rfl (by decide) _ _ _ rfl (hown.alloc _) ⟨wr.heap.size, 0, none⟩ 1 1 [.int .i64 (j : Int), .int .i64 (j : Int)] rfl rfl ?c1 ?c2 ?c3 ?c4 ?c5 ?_)
            case c1 => have := cells_new wr [.int .i64 (j : Int), .int .i64 (j : Int)] 54; simpa using this
            case c2 => intro u hu; simp at hu; rcases hu with rfl | rfl <;> rfl
            case c3 => unfold maxLen; omega
            case c4 => omega
            case c5 => simp; omega
            intro v' w1 hown' hgrow _
            have hB1 := below_append hbw (by omega) hown hgrow
            clear hgrow hown hbw
            go_wp2_with fail
            go_roundw
            case rel => exact ⟨j + 1, by omega, by go_num, by rw [hr2.out]; simpa [spnC, Nat.add_assoc] using hown', hB1⟩
            case measure => simp [intOf]; omega
    · obtain rfl : j = hs.length := by omega
      go_wp2_with fail
      go_ret
      exact ⟨_, rfl, hown, hbw⟩
end Go.Proofs.YtjpoacffnpgjdaaGreat
/- The reference for fires: sunk, Surely, Possibly (written by tools/genfref.py). -/
namespace Go.Proofs.YtjpoacffnpgjdaaGreat
open Go Go.RowKit Go.Shelf
attribute [local go_sem] Oper.semAt_some Rel RelAt RelUpon

theorem own_base {w : World} {B B2 : Nat} {e : TypeId} {s : Nat} {v : Value} {n : Nat} {xs : List Value} (h : w.ownsRow B e s v n xs) (hB : B2 ≤ B) : w.ownsRow B2 e s v n xs :=
  ⟨h.1, h.2.imp id fun ⟨g, cap, cur, a, b, c⟩ => ⟨g, cap, cur, a, Nat.le_trans hB b, c⟩⟩
theorem set_grown (W : World) (b i : Nat) (v : Value) : W.grownBy (W.setCell ⟨b, i, none⟩ v) (some b) :=
  ⟨rfl, rfl, rfl, (KeepsWalks.setCell W _ v).size, fun k _ hk => put_other v (fun e => hk (by rw [e]))⟩
theorem twice_set (W : World) (b : Nat) (x y : Value) : W.grownBy ((W.setCell ⟨b, 0, none⟩ x).setCell ⟨b, 1, none⟩ y) (some b) := (set_grown W b 0 x).trans (set_grown _ b 1 y)
theorem heat_one {n : Int} (h : heatE n ≠ 0) : heatE n = 1 := by unfold heatE at *; cases hb : heatB n <;> simp [hb] at *
set_option maxRecDepth 100000 in
set_option maxHeartbeats 4000000 in
theorem sunk_r (f : Fi) (vl : Value) (v1 : Value) (l : List Spt) (need : Int) (w : World) (hl : Lks w w.heap.size vl f.ls) (h1 : Spts w w.heap.size v1 l) :
    Calls Tryz.prog 97 #[fiV f vl, v1, .int .i64 need] w fun e w' => e = .returned (.int .i64 (sunkE f l need)) ∧ Below w.heap.size w w' := by
  obtain ⟨A, cap, rfl⟩ := hl.form
  obtain ⟨A1, cap1, rfl⟩ := h1.form
  have HK := Lib.hid hl
  clear hl
  have H1 := Lib.hid h1
  clear h1
  obtain ⟨R, hR⟩ : ∃ r, r = sunkE f l need := ⟨_, rfl⟩
  rw [← hR]
  have HR := Lib.hid hR
  clear hR
  have x1 := fun W h => CheckPathR_c (.slice A1 l.length cap1) l W h
  have x0 := fun W h => CheckR_c f (.slice A f.ls.length cap) W h
  by_cases hf : fireI f = 0
  · have HF : Hid (fireI f = 0) := hf
    have HOK := Lib.hid (fire_ok hf)
    rw [hf] at x0
    clear hf
    by_cases hq1 : pathI l = 0
    · have HQ1 : Hid (pathI l = 0) := hq1
      rw [hq1] at x1
      clear hq1
      by_cases hq2 : heatE need = 0
      · have HQ2 : Hid (heatE need = 0) := hq2
        have hb2 : heatB need = true := heatE_iff.1 hq2
        clear hq2
        cases hag : agreeB f f.ls with
        | false =>
          obtain rfl : R = 9 := by rw [HR.out]; exact known_clash HF.out ((first_next HQ1.out).trans ((first_next HQ2.out).trans rfl)) hag
          have X0 := Lib.hid x0
          clear x0
          unfold fiV
          go_enter Tryz.func97, Tryz.ntmps97
          have bf := heap_alloc_new w (.cells #[.int .i64 f.rise, .int .i64 f.fall, .int .i64 f.up, .int .i64 f.down, .slice A f.ls.length cap] 24)
          have HB := below_alloc w (.cells #[.int .i64 f.rise, .int .i64 f.fall, .int .i64 f.up, .int .i64 f.down, .slice A f.ls.length cap] 24)
          go_wp2_with fail
          generalize (w.alloc (.cells #[.int .i64 f.rise, .int .i64 f.fall, .int .i64 f.up, .int .i64 f.down, .slice A f.ls.length cap] 24)) = w1 at bf HB  ⊢
          have hB := HB
          clear HB
          have hk := HK.out.later hB
          have h1 := H1.out.later hB
          refine (X0.out w1 hk).mono ?_
          rintro e w2 ⟨rfl, hF⟩
          replace bf := (hF.block _ (size_of_block bf)).trans bf
          replace hk := hk.later hF
          replace h1 := h1.later hF
          replace hB := below_then hB hF
          clear hF
          go_wp2_with fail
          refine (x1 w2 h1).mono ?_
          rintro e w3 ⟨rfl, hF⟩
          replace bf := (hF.block _ (size_of_block bf)).trans bf
          replace hk := hk.later hF
          replace h1 := h1.later hF
          replace hB := below_then hB hF
          clear hF
          go_wp2_with fail
          refine (heat_r need w3).mono ?_
          rintro e w' ⟨rfl, rfl⟩
          rw [hb2]
          have cbf0 := Joins.cell_of_block bf 0
          have cbf1 := Joins.cell_of_block bf 1
          have cbf2 := Joins.cell_of_block bf 2
          have cbf3 := Joins.cell_of_block bf 3
          have cbf4 := Joins.cell_of_block bf 4
          go_wp2_with fail
          refine (agree_r f (.slice A f.ls.length cap) w3 hk HOK.out.slope HOK.out.look).mono ?_
          rintro e w4 ⟨rfl, hF⟩
          clear cbf0 cbf1 cbf2 cbf3 cbf4
          replace bf := (hF.block _ (size_of_block bf)).trans bf
          replace hk := hk.later hF
          replace h1 := h1.later hF
          replace hB := below_then hB hF
          clear hF
          rw [hag]
          go_wp2_with fail
          refine bodyPost_ret (v := .int .i64 9) ?_ rfl ⟨rfl, hB⟩
          simp [results, Tryz.results97, go_sem]
        | true =>
          obtain rfl : R = 0 := by rw [HR.out]; exact known_ok HF.out ((first_next HQ1.out).trans ((first_next HQ2.out).trans rfl)) hag
          have X0 := Lib.hid x0
          clear x0
          unfold fiV
          go_enter Tryz.func97, Tryz.ntmps97
          have bf := heap_alloc_new w (.cells #[.int .i64 f.rise, .int .i64 f.fall, .int .i64 f.up, .int .i64 f.down, .slice A f.ls.length cap] 24)
          have HB := below_alloc w (.cells #[.int .i64 f.rise, .int .i64 f.fall, .int .i64 f.up, .int .i64 f.down, .slice A f.ls.length cap] 24)
          go_wp2_with fail
          generalize (w.alloc (.cells #[.int .i64 f.rise, .int .i64 f.fall, .int .i64 f.up, .int .i64 f.down, .slice A f.ls.length cap] 24)) = w1 at bf HB  ⊢
          have hB := HB
          clear HB
          have hk := HK.out.later hB
          have h1 := H1.out.later hB
          refine (X0.out w1 hk).mono ?_
          rintro e w2 ⟨rfl, hF⟩
          replace bf := (hF.block _ (size_of_block bf)).trans bf
          replace hk := hk.later hF
          replace h1 := h1.later hF
          replace hB := below_then hB hF
          clear hF
          go_wp2_with fail
          refine (x1 w2 h1).mono ?_
          rintro e w3 ⟨rfl, hF⟩
          replace bf := (hF.block _ (size_of_block bf)).trans bf
          replace hk := hk.later hF
          replace h1 := h1.later hF
          replace hB := below_then hB hF
          clear hF
          go_wp2_with fail
          refine (heat_r need w3).mono ?_
          rintro e w' ⟨rfl, rfl⟩
          rw [hb2]
          have cbf0 := Joins.cell_of_block bf 0
          have cbf1 := Joins.cell_of_block bf 1
          have cbf2 := Joins.cell_of_block bf 2
          have cbf3 := Joins.cell_of_block bf 3
          have cbf4 := Joins.cell_of_block bf 4
          go_wp2_with fail
          refine (agree_r f (.slice A f.ls.length cap) w3 hk HOK.out.slope HOK.out.look).mono ?_
          rintro e w4 ⟨rfl, hF⟩
          clear cbf0 cbf1 cbf2 cbf3 cbf4
          replace bf := (hF.block _ (size_of_block bf)).trans bf
          replace hk := hk.later hF
          replace h1 := h1.later hF
          replace hB := below_then hB hF
          clear hF
          rw [hag]
          go_wp2_with fail
          refine bodyPost_ret (v := .int .i64 0) ?_ rfl ⟨rfl, hB⟩
          simp [results, Tryz.results97, go_sem]
      · obtain rfl : R = 1 := by rw [HR.out]; exact (known_at HF.out ((first_next HQ1.out).trans (first_at0 hq2)) hq2).trans (heat_one hq2)
        have hb2 : heatB need = false := by
          cases hh : heatB need
          · rfl
          · exact absurd (heatE_iff.2 hh) hq2
        clear hq2 HR
        have X0 := Lib.hid x0
        clear x0
        unfold fiV
        go_enter Tryz.func97, Tryz.ntmps97
        have bf := heap_alloc_new w (.cells #[.int .i64 f.rise, .int .i64 f.fall, .int .i64 f.up, .int .i64 f.down, .slice A f.ls.length cap] 24)
        have HB := below_alloc w (.cells #[.int .i64 f.rise, .int .i64 f.fall, .int .i64 f.up, .int .i64 f.down, .slice A f.ls.length cap] 24)
        go_wp2_with fail
        generalize (w.alloc (.cells #[.int .i64 f.rise, .int .i64 f.fall, .int .i64 f.up, .int .i64 f.down, .slice A f.ls.length cap] 24)) = w1 at bf HB  ⊢
        have hB := HB
        clear HB
        have hk := HK.out.later hB
        have h1 := H1.out.later hB
        refine (X0.out w1 hk).mono ?_
        rintro e w2 ⟨rfl, hF⟩
        replace bf := (hF.block _ (size_of_block bf)).trans bf
        replace hk := hk.later hF
        replace h1 := h1.later hF
        replace hB := below_then hB hF
        clear hF
        go_wp2_with fail
        refine (x1 w2 h1).mono ?_
        rintro e w3 ⟨rfl, hF⟩
        replace bf := (hF.block _ (size_of_block bf)).trans bf
        replace hk := hk.later hF
        replace h1 := h1.later hF
        replace hB := below_then hB hF
        clear hF
        go_wp2_with fail
        refine (heat_r need w3).mono ?_
        rintro e w' ⟨rfl, rfl⟩
        rw [hb2]
        go_wp2_with fail
        refine bodyPost_ret (v := .int .i64 1) ?_ rfl ⟨rfl, hB⟩
        simp [results, Tryz.results97, go_sem]
    · obtain rfl : R = pathI l := by rw [HR.out]; exact known_at HF.out (first_at0 hq1) hq1
      have d9 : (pathI l != 0) = true := by simpa using hq1
      clear hq1 HR
      generalize pathI l = E at x1 d9 ⊢
      have X0 := Lib.hid x0
      clear x0
      unfold fiV
      go_enter Tryz.func97, Tryz.ntmps97
      have bf := heap_alloc_new w (.cells #[.int .i64 f.rise, .int .i64 f.fall, .int .i64 f.up, .int .i64 f.down, .slice A f.ls.length cap] 24)
      have HB := below_alloc w (.cells #[.int .i64 f.rise, .int .i64 f.fall, .int .i64 f.up, .int .i64 f.down, .slice A f.ls.length cap] 24)
      go_wp2_with fail
      generalize (w.alloc (.cells #[.int .i64 f.rise, .int .i64 f.fall, .int .i64 f.up, .int .i64 f.down, .slice A f.ls.length cap] 24)) = w1 at bf HB  ⊢
      have hB := HB
      clear HB
      have hk := HK.out.later hB
      have h1 := H1.out.later hB
      refine (X0.out w1 hk).mono ?_
      rintro e w2 ⟨rfl, hF⟩
      replace bf := (hF.block _ (size_of_block bf)).trans bf
      replace hk := hk.later hF
      replace h1 := h1.later hF
      replace hB := below_then hB hF
      clear hF
      go_wp2_with fail
      refine (x1 w2 h1).mono ?_
      rintro e w3 ⟨rfl, hF⟩
      replace bf := (hF.block _ (size_of_block bf)).trans bf
      replace hk := hk.later hF
      replace h1 := h1.later hF
      replace hB := below_then hB hF
      clear hF
      go_wp2_with fail
      refine bodyPost_ret (v := .int .i64 E) ?_ rfl ⟨rfl, hB⟩
      simp [results, Tryz.results97, go_sem]
  · obtain rfl : R = fireI f := by rw [HR.out]; exact known_fire hf
    have d1 : (fireI f != 0) = true := by simpa using hf
    clear hf
    clear HR
    generalize fireI f = E at x0 d1 ⊢
    have X0 := Lib.hid x0
    clear x0
    unfold fiV
    go_enter Tryz.func97, Tryz.ntmps97
    have bf := heap_alloc_new w (.cells #[.int .i64 f.rise, .int .i64 f.fall, .int .i64 f.up, .int .i64 f.down, .slice A f.ls.length cap] 24)
    have HB := below_alloc w (.cells #[.int .i64 f.rise, .int .i64 f.fall, .int .i64 f.up, .int .i64 f.down, .slice A f.ls.length cap] 24)
    go_wp2_with fail
    generalize (w.alloc (.cells #[.int .i64 f.rise, .int .i64 f.fall, .int .i64 f.up, .int .i64 f.down, .slice A f.ls.length cap] 24)) = w1 at bf HB  ⊢
    have hB := HB
    clear HB
    have hk := HK.out.later hB
    have h1 := H1.out.later hB
    refine (X0.out w1 hk).mono ?_
    rintro e w2 ⟨rfl, hF⟩
    replace bf := (hF.block _ (size_of_block bf)).trans bf
    replace hk := hk.later hF
    replace h1 := h1.later hF
    replace hB := below_then hB hF
    clear hF
    go_wp2_with fail
    refine bodyPost_ret (v := .int .i64 E) ?_ rfl ⟨rfl, hB⟩
    simp [results, Tryz.results97, go_sem]
set_option maxRecDepth 100000 in
set_option maxHeartbeats 4000000 in
theorem SurelyR_c (f : Fi) (vl v1 : Value) (l : List Spt) (need : Int) (w : World) (hl : Lks w w.heap.size vl f.ls) (h1 : Spts w w.heap.size v1 l) :
    Calls Tryz.prog 41 #[fiV f vl, v1, .int .i64 need] w fun e w' => ∃ u, e = .returned (.agg #[u, .int .i64 (sunkE f l need)]) ∧ w'.ownsRow w.heap.size 54 2 u (surelyR f l need).length ((surelyR f l need).flatMap spnC) ∧ Below w.heap.size w w' := by
  obtain ⟨A, cap, rfl⟩ := hl.form
  obtain ⟨A1, cap1, rfl⟩ := h1.form
  have HK := Lib.hid hl
  have H1 := Lib.hid h1
  clear hl h1
  have x0 := fun W h h1 => sunk_r f (.slice A f.ls.length cap) (.slice A1 l.length cap1) l need W h h1
  obtain ⟨q0, q1, -, qb⟩ := two_new' w (.cells #[.int .i64 f.rise, .int .i64 f.fall, .int .i64 f.up, .int .i64 f.down, .slice A f.ls.length cap] 24) (.cells #[.slice none 0 0, .int .i64 0] 84)
  have hk := HK.out.later qb
  have h1 := H1.out.later qb
  by_cases hE : sunkE f l need = 0
  · have hD : surelyR f l need = rowsI (lowsI f l) need := by unfold surelyR; rw [if_pos hE]
    rw [hE] at x0 ⊢
    rw [hD]
    clear hD
    obtain ⟨hok, hag, hnr, hl2, -⟩ := snk_zero hE
    have hsp := (path_zero (first2.1 (known_zero hE).2.1).1).2
    have x1 := fun W h h1 => along_r f (.slice A f.ls.length cap) (.slice A1 l.length cap1) l false W h h1 hok.slope hok.look hsp (by omega)
    rw [show l.map (endB false f f.ls) = lowsI f l from rfl] at x1
    have hll : (lowsI f l).length = l.length := by unfold lowsI; simp
    generalize lowsI f l = L at x1 hll ⊢
    have hr := rows_len L need (Nat.le_refl _)
    have HR := Lib.hid hr
    have HL := Lib.hid hll
    have H2 := Lib.hid hl2
    have X0 := Lib.hid x0
    have X1 := Lib.hid x1
    have HK1 := Lib.hid hk
    have H11 := Lib.hid h1
    clear hE hok hag hnr hl2 hsp x0 x1 hr hll hk h1
    unfold fiV at X0 X1 ⊢
    go_enter Tryz.func41, Tryz.ntmps41
    go_wp2_with fail
    generalize (w.alloc _).alloc _ = W2 at q0 q1 qb HK1 H11 ⊢
    refine (X0.out W2 HK1.out H11.out).mono ?_
    rintro e W3 ⟨rfl, hF⟩
    have bf := (hF.block _ (size_of_block q0)).trans q0
    have br := (hF.block _ (size_of_block q1)).trans q1
    have hB := below_then qb hF
    have hk := HK1.out.later hF
    have h1 := H11.out.later hF
    clear hF q0 q1 qb
    have c0 := Joins.cell_of_block bf 0
    have c1 := Joins.cell_of_block bf 1
    have c2 := Joins.cell_of_block bf 2
    have c3 := Joins.cell_of_block bf 3
    have c4 := Joins.cell_of_block bf 4
    go_wp2_with fail
    refine (X1.out W3 hk h1).mono ?_
    rintro e W4 ⟨u1, rfl, hown, hF⟩
    clear c0 c1 c2 c3 c4 hk h1
    replace br := (hF.block _ (size_of_block br)).trans br
    have zW3 := hB.size
    replace hB := below_then hB hF
    have hi := Ints.of_own (l := L) (by rw [HL.out]; exact hown) (by have := H2.out; have := HL.out; omega)
    clear hF hown bf
    go_wp2_with fail
    refine (steps_r u1 L need W4 hi (by have := H2.out; have := HL.out; omega)).mono ?_
    rintro e W5 ⟨u2, rfl, hown, hF⟩
    obtain ⟨A9, cap9, rfl⟩ := own_form hown
    replace br := (hF.block _ (size_of_block br)).trans br
    have zW4 := hB.size
    replace hB := below_then hB hF
    clear hF hi
    have e0 := Joins.cell_of_block br 0
    have e1 := Joins.cell_of_block br 1
    have f0 := Joins.unfrozen_of_block br 0
    have f1 := Joins.unfrozen_of_block br 1
    have HP := Lib.hid (put2 (.slice A9 (rowsI L need).length cap9) (.int .i64 0) br)
    have hne := own_ne_block hown br (by decide)
    have HO := Lib.hid (hown.kept (twice_set W5 (w.heap.size + 1) (.slice A9 (rowsI L need).length cap9) (.int .i64 0)) (.inr hne))
    go_wp2_with fail
    refine bodyPost_ret (v := .agg #[(.slice A9 (rowsI L need).length cap9), .int .i64 0]) ?_ rfl ⟨_, rfl, ?_, below_set (below_set hB (by omega)) (by omega)⟩
    · simp [results, Tryz.results41, go_sem, HP.out.1, HP.out.2]
    · exact own_base HO.out zW4
  · have hD : surelyR f l need = [] := by unfold surelyR; rw [if_neg hE]
    rw [hD]
    have d1 : (sunkE f l need != 0) = true := by simpa using hE
    clear hD hE
    generalize sunkE f l need = E at x0 d1 ⊢
    have X0 := Lib.hid x0
    have HK1 := Lib.hid hk
    have H11 := Lib.hid h1
    clear x0 hk h1
    unfold fiV at X0 ⊢
    go_enter Tryz.func41, Tryz.ntmps41
    go_wp2_with fail
    generalize (w.alloc _).alloc _ = W2 at q0 q1 qb HK1 H11 ⊢
    refine (X0.out W2 HK1.out H11.out).mono ?_
    rintro e W3 ⟨rfl, hF⟩
    have br := (hF.block _ (size_of_block q1)).trans q1
    have hB := below_then qb hF
    clear hF q0 q1 qb
    have e0 := Joins.cell_of_block br 0
    have e1 := Joins.cell_of_block br 1
    have f0 := Joins.unfrozen_of_block br 0
    have f1 := Joins.unfrozen_of_block br 1
    have HP := Lib.hid (put2 (.slice none 0 0) (.int .i64 E) br)
    go_wp2_with fail
    refine bodyPost_ret (v := .agg #[.slice none 0 0, .int .i64 E]) ?_ rfl ⟨_, rfl, World.ownsRow_nil _ _ _ _, below_set (below_set hB (by omega)) (by omega)⟩
    simp [results, Tryz.results41, go_sem, HP.out.1, HP.out.2]
set_option maxRecDepth 100000 in
set_option maxHeartbeats 4000000 in
theorem PossiblyR_c (f : Fi) (vl v1 : Value) (l : List Spt) (need : Int) (w : World) (hl : Lks w w.heap.size vl f.ls) (h1 : Spts w w.heap.size v1 l) :
    Calls Tryz.prog 43 #[fiV f vl, v1, .int .i64 need] w fun e w' => ∃ u, e = .returned (.agg #[u, .int .i64 (sunkE f l need)]) ∧ w'.ownsRow w.heap.size 54 2 u (possiblyR f l need).length ((possiblyR f l need).flatMap spnC) ∧ Below w.heap.size w w' := by
  obtain ⟨A, cap, rfl⟩ := hl.form
  obtain ⟨A1, cap1, rfl⟩ := h1.form
  have HK := Lib.hid hl
  have H1 := Lib.hid h1
  clear hl h1
  have x0 := fun W h h1 => sunk_r f (.slice A f.ls.length cap) (.slice A1 l.length cap1) l need W h h1
  obtain ⟨q0, q1, -, qb⟩ := two_new' w (.cells #[.int .i64 f.rise, .int .i64 f.fall, .int .i64 f.up, .int .i64 f.down, .slice A f.ls.length cap] 24) (.cells #[.slice none 0 0, .int .i64 0] 84)
  have hk := HK.out.later qb
  have h1 := H1.out.later qb
  by_cases hE : sunkE f l need = 0
  · have hD : possiblyR f l need = rowsI (highsI f l) need := by unfold possiblyR; rw [if_pos hE]
    rw [hE] at x0 ⊢
    rw [hD]
    clear hD
    obtain ⟨hok, hag, hnr, hl2, -⟩ := snk_zero hE
    have hsp := (path_zero (first2.1 (known_zero hE).2.1).1).2
    have x1 := fun W h h1 => along_r f (.slice A f.ls.length cap) (.slice A1 l.length cap1) l true W h h1 hok.slope hok.look hsp (by omega)
    rw [show l.map (endB true f f.ls) = highsI f l from rfl] at x1
    have hll : (highsI f l).length = l.length := by unfold highsI; simp
    generalize highsI f l = L at x1 hll ⊢
    have hr := rows_len L need (Nat.le_refl _)
    have HR := Lib.hid hr
    have HL := Lib.hid hll
    have H2 := Lib.hid hl2
    have X0 := Lib.hid x0
    have X1 := Lib.hid x1
    have HK1 := Lib.hid hk
    have H11 := Lib.hid h1
    clear hE hok hag hnr hl2 hsp x0 x1 hr hll hk h1
    unfold fiV at X0 X1 ⊢
    go_enter Tryz.func43, Tryz.ntmps43
    go_wp2_with fail
    generalize (w.alloc _).alloc _ = W2 at q0 q1 qb HK1 H11 ⊢
    refine (X0.out W2 HK1.out H11.out).mono ?_
    rintro e W3 ⟨rfl, hF⟩
    have bf := (hF.block _ (size_of_block q0)).trans q0
    have br := (hF.block _ (size_of_block q1)).trans q1
    have hB := below_then qb hF
    have hk := HK1.out.later hF
    have h1 := H11.out.later hF
    clear hF q0 q1 qb
    have c0 := Joins.cell_of_block bf 0
    have c1 := Joins.cell_of_block bf 1
    have c2 := Joins.cell_of_block bf 2
    have c3 := Joins.cell_of_block bf 3
    have c4 := Joins.cell_of_block bf 4
    go_wp2_with fail
    refine (X1.out W3 hk h1).mono ?_
    rintro e W4 ⟨u1, rfl, hown, hF⟩
    clear c0 c1 c2 c3 c4 hk h1
    replace br := (hF.block _ (size_of_block br)).trans br
    have zW3 := hB.size
    replace hB := below_then hB hF
    have hi := Ints.of_own (l := L) (by rw [HL.out]; exact hown) (by have := H2.out; have := HL.out; omega)
    clear hF hown bf
    go_wp2_with fail
    refine (steps_r u1 L need W4 hi (by have := H2.out; have := HL.out; omega)).mono ?_
    rintro e W5 ⟨u2, rfl, hown, hF⟩
    obtain ⟨A9, cap9, rfl⟩ := own_form hown
    replace br := (hF.block _ (size_of_block br)).trans br
    have zW4 := hB.size
    replace hB := below_then hB hF
    clear hF hi
    have e0 := Joins.cell_of_block br 0
    have e1 := Joins.cell_of_block br 1
    have f0 := Joins.unfrozen_of_block br 0
    have f1 := Joins.unfrozen_of_block br 1
    have HP := Lib.hid (put2 (.slice A9 (rowsI L need).length cap9) (.int .i64 0) br)
    have hne := own_ne_block hown br (by decide)
    have HO := Lib.hid (hown.kept (twice_set W5 (w.heap.size + 1) (.slice A9 (rowsI L need).length cap9) (.int .i64 0)) (.inr hne))
    go_wp2_with fail
    refine bodyPost_ret (v := .agg #[(.slice A9 (rowsI L need).length cap9), .int .i64 0]) ?_ rfl ⟨_, rfl, ?_, below_set (below_set hB (by omega)) (by omega)⟩
    · simp [results, Tryz.results43, go_sem, HP.out.1, HP.out.2]
    · exact own_base HO.out zW4
  · have hD : possiblyR f l need = [] := by unfold possiblyR; rw [if_neg hE]
    rw [hD]
    have d1 : (sunkE f l need != 0) = true := by simpa using hE
    clear hD hE
    generalize sunkE f l need = E at x0 d1 ⊢
    have X0 := Lib.hid x0
    have HK1 := Lib.hid hk
    have H11 := Lib.hid h1
    clear x0 hk h1
    unfold fiV at X0 ⊢
    go_enter Tryz.func43, Tryz.ntmps43
    go_wp2_with fail
    generalize (w.alloc _).alloc _ = W2 at q0 q1 qb HK1 H11 ⊢
    refine (X0.out W2 HK1.out H11.out).mono ?_
    rintro e W3 ⟨rfl, hF⟩
    have br := (hF.block _ (size_of_block q1)).trans q1
    have hB := below_then qb hF
    clear hF q0 q1 qb
    have e0 := Joins.cell_of_block br 0
    have e1 := Joins.cell_of_block br 1
    have f0 := Joins.unfrozen_of_block br 0
    have f1 := Joins.unfrozen_of_block br 1
    have HP := Lib.hid (put2 (.slice none 0 0) (.int .i64 E) br)
    go_wp2_with fail
    refine bodyPost_ret (v := .agg #[.slice none 0 0, .int .i64 E]) ?_ rfl ⟨_, rfl, World.ownsRow_nil _ _ _ _, below_set (below_set hB (by omega)) (by omega)⟩
    simp [results, Tryz.results43, go_sem, HP.out.1, HP.out.2]
end Go.Proofs.YtjpoacffnpgjdaaGreat
/- The reference for fires: Coolest, Hottest. -/
namespace Go.Proofs.YtjpoacffnpgjdaaGreat
open Go Go.RowKit Go.Shelf
attribute [local go_sem] Oper.semAt_some Rel RelAt RelUpon

theorem Tryz.fieldSpn0 (a b : Value) (w : World) : (Instr.field 54 (.agg #[a, b]) 0).run Tryz.prog w = .ok a w := by kernel_rfl
theorem Tryz.fieldSpn1 (a b : Value) (w : World) : (Instr.field 54 (.agg #[a, b]) 1).run Tryz.prog w = .ok b w := by kernel_rfl
theorem lst_zero {f : Fi} {l : List Spt} (h : listE f l = 0) : FireOk f ∧ agreeB f f.ls = true ∧ l.length ≤ 24 ∧ (∀ p ∈ l, spotB p = true) ∧ spotsI l = 0 := by
  obtain ⟨h1, h2, h3⟩ := known_zero h
  rw [first1] at h2
  obtain ⟨a, b⟩ := spotsI_iff.1 h2
  exact ⟨fire_ok h1, h3, a, b, h2⟩
set_option maxRecDepth 100000 in
set_option maxHeartbeats 4000000 in
theorem CoolestR_c (f : Fi) (vl v1 : Value) (l : List Spt) (w : World) (hl : Lks w w.heap.size vl f.ls) (h1 : Spts w w.heap.size v1 l) :
    Calls Tryz.prog 32 #[fiV f vl, v1] w fun e w' => ∃ u, e = .returned (.agg #[u, .int .i64 (listE f l)]) ∧ w'.ownsRow w.heap.size 3 1 u (coolR f l).length ((coolR f l).map (Value.int .i64)) ∧ Below w.heap.size w w' := by
  obtain ⟨A, cap, rfl⟩ := hl.form
  obtain ⟨A1, cap1, rfl, _, hn, hat⟩ := Spts.open_ h1
  have H := Lib.hid hat
  have HK := Lib.hid hl
  have H1 := Lib.hid h1
  clear hl h1 hat
  have x0 := fun W h h1 => asked_r f (.slice A f.ls.length cap) (.slice A1 l.length cap1) l W h h1
  obtain ⟨q0, q1, -, qb⟩ := two_new' w (.cells #[.int .i64 f.rise, .int .i64 f.fall, .int .i64 f.up, .int .i64 f.down, .slice A f.ls.length cap] 24) (.cells #[.slice none 0 0, .int .i64 0] 41)
  have hk := HK.out.later qb
  have h1 := H1.out.later qb
  by_cases hE : listE f l = 0
  · have hD : coolR f l = l.map (endLo f f.ls) := by unfold coolR; rw [if_pos hE]
    rw [hD, hE]
    rw [hE] at x0
    obtain ⟨hok, hag, hl24, hsp, -⟩ := lst_zero hE
    have HE := Lib.hid (fun W p (hp : p ∈ l) h => ends_r f (.slice A f.ls.length cap) p W h hok.slope hok.look (hsp p hp))
    have X0 := Lib.hid x0
    have HK1 := Lib.hid hk
    have H11 := Lib.hid h1
    have H24 := Lib.hid hl24
    clear hD hE hok hag hl24 hsp x0 hk h1
    obtain ⟨i0, hi, hz0, hz1, hz2⟩ := info_parts Tryz.infoIntF
    have HI := Lib.hid hi
    have HI0 := Lib.hid hz0
    have HI1 := Lib.hid hz1
    have HI2 := Lib.hid hz2
    clear hi hz0 hz1 hz2
    have hf0 := Tryz.fieldSpn0
    unfold fiV sV at HE
    unfold fiV at X0 ⊢
    go_enter Tryz.func32, Tryz.ntmps32
    go_wp2_with fail
    generalize (w.alloc _).alloc _ = W2 at q0 q1 qb HK1 H11 ⊢
    refine (X0.out W2 HK1.out H11.out).mono ?_
    rintro e W3 ⟨rfl, hF⟩
    have bf := (hF.block _ (size_of_block q0)).trans q0
    have br := (hF.block _ (size_of_block q1)).trans q1
    have hB := below_then qb hF
    clear hF q0 q1 qb HK1 H11
    go_wp2_with fail
    go_loopw [6, 7] (fun v i wr => ∃ j : Nat, j ≤ l.length ∧ i = .int .i64 j ∧ wr.ownsRow w.heap.size 3 1 v j (((l.take j).map (endLo f f.ls)).map (Value.int .i64)) ∧ wr.heap[w.heap.size]? = some (.cells #[.int .i64 f.rise, .int .i64 f.fall, .int .i64 f.up, .int .i64 f.down, .slice A f.ls.length cap] 24) ∧ wr.heap[w.heap.size + 1]? = some (.cells #[.slice none 0 0, .int .i64 0] 41) ∧ Below w.heap.size w wr) (fun _ i _ => l.length - (intOf i).toNat)
    case atStart => exact ⟨0, Nat.zero_le _, rfl, by simpa using World.ownsRow_nil _ _ _ _, bf, br, hB⟩
    case round =>
      clear bf br hB
      obtain ⟨j, hj, rfl, hown, bf, br, hbw⟩ := hrel
      have h24 := H24.out
      by_cases hlt : j < l.length
      · obtain ⟨b, off, p, rfl, hb, hx0, c0, c1⟩ := H.out j hlt
        have hx := Lib.hid hx0
        have hcc := fun W h => HE.out W p (List.mem_of_getElem? hx0) h
        clear hx0
        have HN : Hid ((l.take (j + 1)).map (endLo f f.ls) = (l.take j).map (endLo f f.ls) ++ [endLo f f.ls p]) := by show _ = _; rw [take_snoc hx.out, List.map_append]; rfl
        generalize endLo f f.ls p = m at hcc HN
        have zbf := size_of_block bf
        have k0 := Joins.cell_of_block bf 0
        have k1 := Joins.cell_of_block bf 1
        have k2 := Joins.cell_of_block bf 2
        have k3 := Joins.cell_of_block bf 3
        have k4 := Joins.cell_of_block bf 4
        have e0 := (hbw.cell (p := ⟨b, off + j * 2, none⟩) hb).trans c0
        have e1 := (hbw.cell (p := ⟨b, off + j * 2 + 1, none⟩) hb).trans c1
        have hzb : b < wr.heap.size := Nat.lt_of_lt_of_le hb hbw.size
        have hk := HK.out.later hbw
        clear c0 c1
        go_wp2_with fail
        refine wp_region_grown_tail1 7 (by kernel_rfl) (by kernel_rfl) _ rfl rfl (fun _ _ _ _ h => h) fun hcg => ?_
        simp only [Act.put, Act.eval, List.setIfInBounds_toArray, List.set_cons_zero, List.set_cons_succ, Array.getD_eq_getD_getElem?, List.getElem?_toArray, List.getElem?_cons_succ, List.getElem?_cons_zero, Option.getD_some, List.take_succ_cons, List.take_zero, List.drop_succ_cons, List.drop_zero]
        repeat (go_big_quiet_step ((go_at_call 82; exact Calls.grown (hcc _ (hk.later (Gr.b _))))))
        refine wpQuiet_nil ?_
        intro _ hw'
        obtain ⟨g, hw''⟩ := hw'
        subst hw''
        have gb := g.b
        generalize g.val = V at gb ⊢
        clear g hcg k0 k1 k2 k3 k4 e0 e1 zbf hk
        have o3 := own_below hown gb
        have B3 := below_then hbw gb
        have n3 := B3.size
        replace bf := (gb.block _ (size_of_block bf)).trans bf
        replace br := (gb.block _ (size_of_block br)).trans br
        clear gb hown hbw hzb
        have bfA := fun o => ((below_alloc V o).block _ (size_of_block bf)).trans bf
        have brA := fun o => ((below_alloc V o).block _ (size_of_block br)).trans br
        go_wp2_with (at_builtin; refine wpList_append_own _ rfl _ _ 27 rfl w.heap.size 3 i0 (.int .i64 0) 1 8 Tryz.underlying27 HI.out HI0.out HI1.out HI2.out rfl (by decide) _ _ _ rfl (o3.alloc _) ⟨V.heap.size, 0, none⟩ 1 1 [.int .i64 m] rfl rfl (cell_one_new _ _ _) (one_oneCell rfl) ?c3 ?c4 ?c5 ?_)
        case c3 => unfold maxLen; omega
        case c4 => omega
        case c5 => simp; omega
        intro v' w1 hown' hgrow _
        have hB1 := below_append B3 (by omega) o3 hgrow
        have bf' := (hgrow.block _ (size_of_block (bfA (.cells #[.int .i64 m] 3))) (Ne.symm (own_ne_block (o3.alloc (.cells #[.int .i64 m] 3)) (bfA (.cells #[.int .i64 m] 3)) (by decide)))).trans (bfA (.cells #[.int .i64 m] 3))
        have br' := (hgrow.block _ (size_of_block (brA (.cells #[.int .i64 m] 3))) (Ne.symm (own_ne_block (o3.alloc (.cells #[.int .i64 m] 3)) (brA (.cells #[.int .i64 m] 3)) (by decide)))).trans (brA (.cells #[.int .i64 m] 3))
        clear hgrow o3 B3
        go_wp2_with fail
        go_roundw
        case rel => exact ⟨j + 1, by omega, by go_num, by rw [HN.out]; simpa using hown', bf', br', hB1⟩
        case measure => simp [intOf]; omega
      · obtain rfl : j = l.length := by omega
        rw [List.take_length] at hown
        have hmap : (l.map (endLo f f.ls)).length = l.length := List.length_map ..
        obtain ⟨A9, cap9, rfl⟩ := own_form hown
        have e0 := Joins.cell_of_block br 0
        have e1 := Joins.cell_of_block br 1
        have f0 := Joins.unfrozen_of_block br 0
        have f1 := Joins.unfrozen_of_block br 1
        have HP := Lib.hid (put2 (.slice A9 l.length cap9) (.int .i64 0) br)
        have hne := own_ne_block hown br (by decide)
        have HO := Lib.hid (hown.kept (twice_set wr (w.heap.size + 1) (.slice A9 l.length cap9) (.int .i64 0)) (.inr hne))
        have HM := Lib.hid hmap
        clear hmap hne
        go_wp2_with fail
        refine bodyPost_ret (v := .agg #[.slice A9 l.length cap9, .int .i64 0]) ?_ rfl ⟨_, rfl, ?_, below_set (below_set hbw (by omega)) (by omega)⟩
        · simp [results, Tryz.results32, go_sem, HP.out.1, HP.out.2]
        · rw [HM.out]; exact HO.out
  · have hD : coolR f l = [] := by unfold coolR; rw [if_neg hE]
    rw [hD]
    have d1 : (listE f l != 0) = true := by simpa using hE
    clear hD hE
    generalize listE f l = E at x0 d1 ⊢
    have X0 := Lib.hid x0
    have HK1 := Lib.hid hk
    have H11 := Lib.hid h1
    clear x0 hk h1
    unfold fiV at X0 ⊢
    go_enter Tryz.func32, Tryz.ntmps32
    go_wp2_with fail
    generalize (w.alloc _).alloc _ = W2 at q0 q1 qb HK1 H11 ⊢
    refine (X0.out W2 HK1.out H11.out).mono ?_
    rintro e W3 ⟨rfl, hF⟩
    have br := (hF.block _ (size_of_block q1)).trans q1
    have hB := below_then qb hF
    clear hF q0 q1 qb
    have e0 := Joins.cell_of_block br 0
    have e1 := Joins.cell_of_block br 1
    have f0 := Joins.unfrozen_of_block br 0
    have f1 := Joins.unfrozen_of_block br 1
    have HP := Lib.hid (put2 (.slice none 0 0) (.int .i64 E) br)
    go_wp2_with fail
    refine bodyPost_ret (v := .agg #[.slice none 0 0, .int .i64 E]) ?_ rfl ⟨_, rfl, World.ownsRow_nil _ _ _ _, below_set (below_set hB (by omega)) (by omega)⟩
    simp [results, Tryz.results32, go_sem, HP.out.1, HP.out.2]
set_option maxRecDepth 100000 in
set_option maxHeartbeats 4000000 in
theorem HottestR_c (f : Fi) (vl v1 : Value) (l : List Spt) (w : World) (hl : Lks w w.heap.size vl f.ls) (h1 : Spts w w.heap.size v1 l) :
    Calls Tryz.prog 34 #[fiV f vl, v1] w fun e w' => ∃ u, e = .returned (.agg #[u, .int .i64 (listE f l)]) ∧ w'.ownsRow w.heap.size 3 1 u (hotR f l).length ((hotR f l).map (Value.int .i64)) ∧ Below w.heap.size w w' := by
  obtain ⟨A, cap, rfl⟩ := hl.form
  obtain ⟨A1, cap1, rfl, _, hn, hat⟩ := Spts.open_ h1
  have H := Lib.hid hat
  have HK := Lib.hid hl
  have H1 := Lib.hid h1
  clear hl h1 hat
  have x0 := fun W h h1 => asked_r f (.slice A f.ls.length cap) (.slice A1 l.length cap1) l W h h1
  obtain ⟨q0, q1, -, qb⟩ := two_new' w (.cells #[.int .i64 f.rise, .int .i64 f.fall, .int .i64 f.up, .int .i64 f.down, .slice A f.ls.length cap] 24) (.cells #[.slice none 0 0, .int .i64 0] 41)
  have hk := HK.out.later qb
  have h1 := H1.out.later qb
  by_cases hE : listE f l = 0
  · have hD : hotR f l = l.map (endHi f f.ls) := by unfold hotR; rw [if_pos hE]
    rw [hD, hE]
    rw [hE] at x0
    obtain ⟨hok, hag, hl24, hsp, -⟩ := lst_zero hE
    have HE := Lib.hid (fun W p (hp : p ∈ l) h => ends_r f (.slice A f.ls.length cap) p W h hok.slope hok.look (hsp p hp))
    have X0 := Lib.hid x0
    have HK1 := Lib.hid hk
    have H11 := Lib.hid h1
    have H24 := Lib.hid hl24
    clear hD hE hok hag hl24 hsp x0 hk h1
    obtain ⟨i0, hi, hz0, hz1, hz2⟩ := info_parts Tryz.infoIntF
    have HI := Lib.hid hi
    have HI0 := Lib.hid hz0
    have HI1 := Lib.hid hz1
    have HI2 := Lib.hid hz2
    clear hi hz0 hz1 hz2
    have hf0 := Tryz.fieldSpn1
    unfold fiV sV at HE
    unfold fiV at X0 ⊢
    go_enter Tryz.func34, Tryz.ntmps34
    go_wp2_with fail
    generalize (w.alloc _).alloc _ = W2 at q0 q1 qb HK1 H11 ⊢
    refine (X0.out W2 HK1.out H11.out).mono ?_
    rintro e W3 ⟨rfl, hF⟩
    have bf := (hF.block _ (size_of_block q0)).trans q0
    have br := (hF.block _ (size_of_block q1)).trans q1
    have hB := below_then qb hF
    clear hF q0 q1 qb HK1 H11
    go_wp2_with fail
    go_loopw [6, 7] (fun v i wr => ∃ j : Nat, j ≤ l.length ∧ i = .int .i64 j ∧ wr.ownsRow w.heap.size 3 1 v j (((l.take j).map (endHi f f.ls)).map (Value.int .i64)) ∧ wr.heap[w.heap.size]? = some (.cells #[.int .i64 f.rise, .int .i64 f.fall, .int .i64 f.up, .int .i64 f.down, .slice A f.ls.length cap] 24) ∧ wr.heap[w.heap.size + 1]? = some (.cells #[.slice none 0 0, .int .i64 0] 41) ∧ Below w.heap.size w wr) (fun _ i _ => l.length - (intOf i).toNat)
    case atStart => exact ⟨0, Nat.zero_le _, rfl, by simpa using World.ownsRow_nil _ _ _ _, bf, br, hB⟩
    case round =>
      clear bf br hB
      obtain ⟨j, hj, rfl, hown, bf, br, hbw⟩ := hrel
      have h24 := H24.out
      by_cases hlt : j < l.length
      · obtain ⟨b, off, p, rfl, hb, hx0, c0, c1⟩ := H.out j hlt
        have hx := Lib.hid hx0
        have hcc := fun W h => HE.out W p (List.mem_of_getElem? hx0) h
        clear hx0
        have HN : Hid ((l.take (j + 1)).map (endHi f f.ls) = (l.take j).map (endHi f f.ls) ++ [endHi f f.ls p]) := by show _ = _; rw [take_snoc hx.out, List.map_append]; rfl
        generalize endHi f f.ls p = m at hcc HN
        have zbf := size_of_block bf
        have k0 := Joins.cell_of_block bf 0
        have k1 := Joins.cell_of_block bf 1
        have k2 := Joins.cell_of_block bf 2
        have k3 := Joins.cell_of_block bf 3
        have k4 := Joins.cell_of_block bf 4
        have e0 := (hbw.cell (p := ⟨b, off + j * 2, none⟩) hb).trans c0
        have e1 := (hbw.cell (p := ⟨b, off + j * 2 + 1, none⟩) hb).trans c1
        have hzb : b < wr.heap.size := Nat.lt_of_lt_of_le hb hbw.size
        have hk := HK.out.later hbw
        clear c0 c1
        go_wp2_with fail
        refine wp_region_grown_tail1 7 (by kernel_rfl) (by kernel_rfl) _ rfl rfl (fun _ _ _ _ h => h) fun hcg => ?_
        simp only [Act.put, Act.eval, List.setIfInBounds_toArray, List.set_cons_zero, List.set_cons_succ, Array.getD_eq_getD_getElem?, List.getElem?_toArray, List.getElem?_cons_succ, List.getElem?_cons_zero, Option.getD_some, List.take_succ_cons, List.take_zero, List.drop_succ_cons, List.drop_zero]
        repeat (go_big_quiet_step ((go_at_call 82; exact Calls.grown (hcc _ (hk.later (Gr.b _))))))
        refine wpQuiet_nil ?_
        intro _ hw'
        obtain ⟨g, hw''⟩ := hw'
        subst hw''
        have gb := g.b
        generalize g.val = V at gb ⊢
        clear g hcg k0 k1 k2 k3 k4 e0 e1 zbf hk
        have o3 := own_below hown gb
        have B3 := below_then hbw gb
        have n3 := B3.size
        replace bf := (gb.block _ (size_of_block bf)).trans bf
        replace br := (gb.block _ (size_of_block br)).trans br
        clear gb hown hbw hzb
        have bfA := fun o => ((below_alloc V o).block _ (size_of_block bf)).trans bf
        have brA := fun o => ((below_alloc V o).block _ (size_of_block br)).trans br
        go_wp2_with (at_builtin; refine wpList_append_own _ rfl _ _ 27 rfl w.heap.size 3 i0 (.int .i64 0) 1 8 Tryz.underlying27 HI.out HI0.out HI1.out HI2.out rfl (by decide) _ _ _ rfl (o3.alloc _) ⟨V.heap.size, 0, none⟩ 1 1 [.int .i64 m] rfl rfl (cell_one_new _ _ _) (one_oneCell rfl) ?c3 ?c4 ?c5 ?_)
        case c3 => unfold maxLen; omega
        case c4 => omega
        case c5 => simp; omega
        intro v' w1 hown' hgrow _
        have hB1 := below_append B3 (by omega) o3 hgrow
        have bf' := (hgrow.block _ (size_of_block (bfA (.cells #[.int .i64 m] 3))) (Ne.symm (own_ne_block (o3.alloc (.cells #[.int .i64 m] 3)) (bfA (.cells #[.int .i64 m] 3)) (by decide)))).trans (bfA (.cells #[.int .i64 m] 3))
        have br' := (hgrow.block _ (size_of_block (brA (.cells #[.int .i64 m] 3))) (Ne.symm (own_ne_block (o3.alloc (.cells #[.int .i64 m] 3)) (brA (.cells #[.int .i64 m] 3)) (by decide)))).trans (brA (.cells #[.int .i64 m] 3))
        clear hgrow o3 B3
        go_wp2_with fail
        go_roundw
        case rel => exact ⟨j + 1, by omega, by go_num, by rw [HN.out]; simpa using hown', bf', br', hB1⟩
        case measure => simp [intOf]; omega
      · obtain rfl : j = l.length := by omega
        rw [List.take_length] at hown
        have hmap : (l.map (endHi f f.ls)).length = l.length := List.length_map ..
        obtain ⟨A9, cap9, rfl⟩ := own_form hown
        have e0 := Joins.cell_of_block br 0
        have e1 := Joins.cell_of_block br 1
        have f0 := Joins.unfrozen_of_block br 0
        have f1 := Joins.unfrozen_of_block br 1
        have HP := Lib.hid (put2 (.slice A9 l.length cap9) (.int .i64 0) br)
        have hne := own_ne_block hown br (by decide)
        have HO := Lib.hid (hown.kept (twice_set wr (w.heap.size + 1) (.slice A9 l.length cap9) (.int .i64 0)) (.inr hne))
        have HM := Lib.hid hmap
        clear hmap hne
        go_wp2_with fail
        refine bodyPost_ret (v := .agg #[.slice A9 l.length cap9, .int .i64 0]) ?_ rfl ⟨_, rfl, ?_, below_set (below_set hbw (by omega)) (by omega)⟩
        · simp [results, Tryz.results34, go_sem, HP.out.1, HP.out.2]
        · rw [HM.out]; exact HO.out
  · have hD : hotR f l = [] := by unfold hotR; rw [if_neg hE]
    rw [hD]
    have d1 : (listE f l != 0) = true := by simpa using hE
    clear hD hE
    generalize listE f l = E at x0 d1 ⊢
    have X0 := Lib.hid x0
    have HK1 := Lib.hid hk
    have H11 := Lib.hid h1
    clear x0 hk h1
    unfold fiV at X0 ⊢
    go_enter Tryz.func34, Tryz.ntmps34
    go_wp2_with fail
    generalize (w.alloc _).alloc _ = W2 at q0 q1 qb HK1 H11 ⊢
    refine (X0.out W2 HK1.out H11.out).mono ?_
    rintro e W3 ⟨rfl, hF⟩
    have br := (hF.block _ (size_of_block q1)).trans q1
    have hB := below_then qb hF
    clear hF q0 q1 qb
    have e0 := Joins.cell_of_block br 0
    have e1 := Joins.cell_of_block br 1
    have f0 := Joins.unfrozen_of_block br 0
    have f1 := Joins.unfrozen_of_block br 1
    have HP := Lib.hid (put2 (.slice none 0 0) (.int .i64 E) br)
    go_wp2_with fail
    refine bodyPost_ret (v := .agg #[.slice none 0 0, .int .i64 E]) ?_ rfl ⟨_, rfl, World.ownsRow_nil _ _ _ _, below_set (below_set hB (by omega)) (by omega)⟩
    simp [results, Tryz.results34, go_sem, HP.out.1, HP.out.2]
end Go.Proofs.YtjpoacffnpgjdaaGreat
/- The reference for fires: Fits (written by tools/genfitsr.py). -/
namespace Go.Proofs.YtjpoacffnpgjdaaGreat
open Go Go.RowKit Go.Shelf
attribute [local go_sem] Oper.semAt_some Rel RelAt RelUpon

theorem mem_zipI {l : List Spt} {hs : List Int} {a : Spt × Int} : a ∈ l.zip hs ↔ ∃ i : Nat, l[i]? = some a.1 ∧ hs[i]? = some a.2 := by
  constructor
  · intro h
    obtain ⟨i, hi⟩ := List.getElem?_of_mem h
    rw [List.getElem?_zip_eq_some] at hi
    exact ⟨i, hi.1, hi.2⟩
  · rintro ⟨i, h1, h2⟩
    refine List.mem_of_getElem? (i := i) ?_
    rw [List.getElem?_zip_eq_some]
    exact ⟨h1, h2⟩
theorem fits_idx {f : Fi} {ls : List Lk} {l : List Spt} {hs : List Int} : fitsB f ls (l.zip hs) = true ↔ ∀ (i : Nat) p x, l[i]? = some p → hs[i]? = some x → (endLo f ls p ≤ x ∧ x ≤ endHi f ls p) ∧ ∀ (k : Nat) q y, l[k]? = some q → hs[k]? = some y → y ≤ x + farI f p q := by
  rw [fits_iff]
  constructor
  · intro h i p x hp hx
    obtain ⟨h1, h2⟩ := h (p, x) (mem_zipI.2 ⟨i, hp, hx⟩)
    exact ⟨h1, fun k q y hq hy => h2 (q, y) (mem_zipI.2 ⟨k, hq, hy⟩)⟩
  · rintro h ⟨p, x⟩ ha
    obtain ⟨i, hp, hx⟩ := mem_zipI.1 ha
    obtain ⟨h1, h2⟩ := h i p x hp hx
    refine ⟨h1, ?_⟩
    rintro ⟨q, y⟩ hb
    obtain ⟨k, hq, hy⟩ := mem_zipI.1 hb
    exact h2 k q y hq hy
set_option maxRecDepth 100000 in
set_option maxHeartbeats 4000000 in
theorem FitsR_a (f : Fi) (vl v1 v2 : Value) (l : List Spt) (hs : List Int) (w : World) (hl : Lks w w.heap.size vl f.ls) (h1 : Spts w w.heap.size v1 l) (h2 : Ints w w.heap.size v2 hs) (hf : fireI f ≠ 0) : Calls Tryz.prog 36 #[fiV f vl, v1, v2] w fun e w' => e = .returned (.tuple #[.bool false, .int .i64 (fireI f)]) ∧ Below w.heap.size w w' := by
  obtain ⟨A, cap, rfl⟩ := hl.form
  obtain ⟨A1, cap1, rfl⟩ := h1.form
  obtain ⟨A2, cap2, rfl⟩ := Sl.form h2
  have HK := Lib.hid hl
  have H1 := Lib.hid h1
  have H2 := Lib.hid h2
  clear hl h1 h2
  have x0 := fun W h => CheckR_c f (.slice A f.ls.length cap) W h
  have x1 := fun W h => spots_r (.slice A1 l.length cap1) l W h
  have q0 := heap_alloc_new w (.cells #[.int .i64 f.rise, .int .i64 f.fall, .int .i64 f.up, .int .i64 f.down, .slice A f.ls.length cap] 24)
  have qb := below_alloc w (.cells #[.int .i64 f.rise, .int .i64 f.fall, .int .i64 f.up, .int .i64 f.down, .slice A f.ls.length cap] 24)
  have hk := HK.out.later qb
  have hl := H1.out.later qb
  have d1 : (fireI f != 0) = true := by simpa using hf
  clear hf
  generalize fireI f = E at x0 d1 ⊢
  have X0 := Lib.hid x0
  have X1 := Lib.hid x1
  have HK1 := Lib.hid hk
  have H11 := Lib.hid hl
  clear x0 x1 hk hl
  unfold fiV at X0 ⊢
  go_enter Tryz.func36, Tryz.ntmps36
  go_wp2_with fail
  generalize w.alloc _ = W2 at q0 qb HK1 H11 ⊢
  refine (X0.out W2 HK1.out).mono ?_
  rintro e W3 ⟨rfl, hF⟩
  have bf := (hF.block _ (size_of_block q0)).trans q0
  have hB := below_then qb hF
  have hl := H11.out.later hF
  clear hF q0 qb HK1 H11
  go_wp2_with fail
  refine bodyPost_ret (v := .tuple #[.bool false, .int .i64 E]) ?_ rfl ⟨rfl, hB⟩
  simp [results, Tryz.results36, go_sem]
set_option maxRecDepth 100000 in
set_option maxHeartbeats 4000000 in
theorem FitsR_b (f : Fi) (vl v1 v2 : Value) (l : List Spt) (hs : List Int) (w : World) (hl : Lks w w.heap.size vl f.ls) (h1 : Spts w w.heap.size v1 l) (h2 : Ints w w.heap.size v2 hs) (hf : fireI f = 0) (hs0 : spotsI l ≠ 0) : Calls Tryz.prog 36 #[fiV f vl, v1, v2] w fun e w' => e = .returned (.tuple #[.bool false, .int .i64 (spotsI l)]) ∧ Below w.heap.size w w' := by
  obtain ⟨A, cap, rfl⟩ := hl.form
  obtain ⟨A1, cap1, rfl⟩ := h1.form
  obtain ⟨A2, cap2, rfl⟩ := Sl.form h2
  have HK := Lib.hid hl
  have H1 := Lib.hid h1
  have H2 := Lib.hid h2
  clear hl h1 h2
  have x0 := fun W h => CheckR_c f (.slice A f.ls.length cap) W h
  have x1 := fun W h => spots_r (.slice A1 l.length cap1) l W h
  have q0 := heap_alloc_new w (.cells #[.int .i64 f.rise, .int .i64 f.fall, .int .i64 f.up, .int .i64 f.down, .slice A f.ls.length cap] 24)
  have qb := below_alloc w (.cells #[.int .i64 f.rise, .int .i64 f.fall, .int .i64 f.up, .int .i64 f.down, .slice A f.ls.length cap] 24)
  have hk := HK.out.later qb
  have hl := H1.out.later qb
  rw [hf] at x0
  have d1 : (spotsI l != 0) = true := by simpa using hs0
  clear hf hs0
  generalize spotsI l = E at x1 d1 ⊢
  have X0 := Lib.hid x0
  have X1 := Lib.hid x1
  have HK1 := Lib.hid hk
  have H11 := Lib.hid hl
  clear x0 x1 hk hl
  unfold fiV at X0 ⊢
  go_enter Tryz.func36, Tryz.ntmps36
  go_wp2_with fail
  generalize w.alloc _ = W2 at q0 qb HK1 H11 ⊢
  refine (X0.out W2 HK1.out).mono ?_
  rintro e W3 ⟨rfl, hF⟩
  have bf := (hF.block _ (size_of_block q0)).trans q0
  have hB := below_then qb hF
  have hl := H11.out.later hF
  clear hF q0 qb HK1 H11
  go_wp2_with fail
  refine (X1.out W3 hl).mono ?_
  rintro e W4 ⟨rfl, hF⟩
  replace bf := (hF.block _ (size_of_block bf)).trans bf
  replace hB := below_then hB hF
  clear hF hl
  go_wp2_with fail
  refine bodyPost_ret (v := .tuple #[.bool false, .int .i64 E]) ?_ rfl ⟨rfl, hB⟩
  simp [results, Tryz.results36, go_sem]
set_option maxRecDepth 100000 in
set_option maxHeartbeats 4000000 in
theorem FitsR_l (f : Fi) (vl v1 v2 : Value) (l : List Spt) (hs : List Int) (w : World) (hl : Lks w w.heap.size vl f.ls) (h1 : Spts w w.heap.size v1 l) (h2 : Ints w w.heap.size v2 hs) (hf : fireI f = 0) (hs0 : spotsI l = 0) (hn : l.length ≠ hs.length) : Calls Tryz.prog 36 #[fiV f vl, v1, v2] w fun e w' => e = .returned (.tuple #[.bool false, .int .i64 1]) ∧ Below w.heap.size w w' := by
  obtain ⟨A, cap, rfl⟩ := hl.form
  obtain ⟨A1, cap1, rfl⟩ := h1.form
  obtain ⟨A2, cap2, rfl⟩ := Sl.form h2
  have HK := Lib.hid hl
  have H1 := Lib.hid h1
  have H2 := Lib.hid h2
  clear hl h1 h2
  have x0 := fun W h => CheckR_c f (.slice A f.ls.length cap) W h
  have x1 := fun W h => spots_r (.slice A1 l.length cap1) l W h
  have q0 := heap_alloc_new w (.cells #[.int .i64 f.rise, .int .i64 f.fall, .int .i64 f.up, .int .i64 f.down, .slice A f.ls.length cap] 24)
  have qb := below_alloc w (.cells #[.int .i64 f.rise, .int .i64 f.fall, .int .i64 f.up, .int .i64 f.down, .slice A f.ls.length cap] 24)
  have hk := HK.out.later qb
  have hl := H1.out.later qb
  rw [hf] at x0
  rw [hs0] at x1
  have d2 : ((hs.length : Int) != (l.length : Int)) = true := by simp; omega
  clear hf hs0 hn
  have X0 := Lib.hid x0
  have X1 := Lib.hid x1
  have HK1 := Lib.hid hk
  have H11 := Lib.hid hl
  clear x0 x1 hk hl
  unfold fiV at X0 ⊢
  go_enter Tryz.func36, Tryz.ntmps36
  go_wp2_with fail
  generalize w.alloc _ = W2 at q0 qb HK1 H11 ⊢
  refine (X0.out W2 HK1.out).mono ?_
  rintro e W3 ⟨rfl, hF⟩
  have bf := (hF.block _ (size_of_block q0)).trans q0
  have hB := below_then qb hF
  have hl := H11.out.later hF
  clear hF q0 qb HK1 H11
  go_wp2_with fail
  refine (X1.out W3 hl).mono ?_
  rintro e W4 ⟨rfl, hF⟩
  replace bf := (hF.block _ (size_of_block bf)).trans bf
  replace hB := below_then hB hF
  clear hF hl
  go_wp2_with fail
  refine bodyPost_ret (v := .tuple #[.bool false, .int .i64 1]) ?_ rfl ⟨rfl, hB⟩
  simp [results, Tryz.results36, go_sem]
set_option maxRecDepth 100000 in
set_option maxHeartbeats 4000000 in
theorem FitsR_m (f : Fi) (vl v1 v2 : Value) (l : List Spt) (hs : List Int) (w : World) (hl : Lks w w.heap.size vl f.ls) (h1 : Spts w w.heap.size v1 l) (h2 : Ints w w.heap.size v2 hs) (hf : fireI f = 0) (hs0 : spotsI l = 0) (hn : l.length = hs.length) : Calls Tryz.prog 36 #[fiV f vl, v1, v2] w fun e w' => e = .returned (.tuple #[.bool (fitsR f l hs), .int .i64 (fitsE f l hs)]) ∧ Below w.heap.size w w' := by
  obtain ⟨A, cap, rfl⟩ := hl.form
  obtain ⟨A1, cap1, rfl⟩ := h1.form
  obtain ⟨A2, cap2, rfl⟩ := Sl.form h2
  have HK := Lib.hid hl
  have H1 := Lib.hid h1
  have H2 := Lib.hid h2
  clear hl h1 h2
  have x0 := fun W h => CheckR_c f (.slice A f.ls.length cap) W h
  have x1 := fun W h => spots_r (.slice A1 l.length cap1) l W h
  have q0 := heap_alloc_new w (.cells #[.int .i64 f.rise, .int .i64 f.fall, .int .i64 f.up, .int .i64 f.down, .slice A f.ls.length cap] 24)
  have qb := below_alloc w (.cells #[.int .i64 f.rise, .int .i64 f.fall, .int .i64 f.up, .int .i64 f.down, .slice A f.ls.length cap] 24)
  have hk := HK.out.later qb
  have hl := H1.out.later qb
  have hok := fire_ok hf
  have hsp := (spotsI_iff.1 hs0).2
  have htold : toldE l hs = if hs.all heatB then 0 else 1 := by unfold toldE; rw [if_neg (by omega)]
  obtain ⟨E, hE⟩ : ∃ e, e = fitsE f l hs := ⟨_, rfl⟩
  obtain ⟨B, hB2⟩ : ∃ e, e = fitsR f l hs := ⟨_, rfl⟩
  rw [← hE, ← hB2]
  have HE1 : Hid (hs.all heatB = false → E = 1 ∧ B = false) := by
    intro h
    have e1 : E = 1 := by
      rw [hE]; unfold fitsE knownE
      rw [if_neg (by simp [hf]), if_pos (by rw [first_next hs0, first1, htold, h]; simp), first_next hs0, first1, htold, h]; rfl
    exact ⟨e1, by rw [hB2]; unfold fitsR; rw [if_neg (by rw [← hE, e1]; decide)]⟩
  have HE9 : Hid (hs.all heatB = true → agreeB f f.ls = false → E = 9 ∧ B = false) := by
    intro h h2
    have e1 : E = 9 := by rw [hE]; exact known_clash hf (by rw [first_next hs0, first1, htold, h]; rfl) h2
    exact ⟨e1, by rw [hB2]; unfold fitsR; rw [if_neg (by rw [← hE, e1]; decide)]⟩
  have HE0 : Hid (hs.all heatB = true → agreeB f f.ls = true → E = 0 ∧ B = fitsB f f.ls (l.zip hs)) := by
    intro h h2
    have e1 : E = 0 := by rw [hE]; exact known_ok hf (by rw [first_next hs0, first1, htold, h]; rfl) h2
    exact ⟨e1, by rw [hB2]; unfold fitsR; rw [if_pos (by rw [← hE, e1])]⟩
  clear hE hB2 htold
  rw [hf] at x0
  rw [hs0] at x1
  have d2 : ((hs.length : Int) != (l.length : Int)) = false := by rw [bne_eq_false_iff_eq]; omega
  have HOK := Lib.hid hok
  have HSP := Lib.hid hsp
  have HN := Lib.hid hn
  have x3 := fun W h => agree_r f (.slice A f.ls.length cap) W h hok.slope hok.look
  have x4 := fun W p (hp : p ∈ l) h => ends_r f (.slice A f.ls.length cap) p W h hok.slope hok.look (hsp p hp)
  have x5 := fun W p q (hp : p ∈ l) (hq : q ∈ l) => far_r f A f.ls.length cap p q W hok.slope (hsp p hp) (hsp q hq)
  have x6 := fun p q (hp : p ∈ l) (hq : q ∈ l) => far_bounds (f := f) hok.slope (hsp p hp) (hsp q hq)
  unfold fiV at x3 x4 x5
  unfold sV at x4 x5
  have X3 := Lib.hid x3
  have X4 := Lib.hid x4
  have X5 := Lib.hid x5
  have X6 := Lib.hid x6
  clear x3 x4 x5 x6 hok hsp hn hf hs0
  have X0 := Lib.hid x0
  have X1 := Lib.hid x1
  have HK1 := Lib.hid hk
  have H11 := Lib.hid hl
  clear x0 x1 hk hl
  unfold fiV at X0 ⊢
  go_enter Tryz.func36, Tryz.ntmps36
  go_wp2_with fail
  generalize w.alloc _ = W2 at q0 qb HK1 H11 ⊢
  refine (X0.out W2 HK1.out).mono ?_
  rintro e W3 ⟨rfl, hF⟩
  have bf := (hF.block _ (size_of_block q0)).trans q0
  have hB := below_then qb hF
  have hl := H11.out.later hF
  clear hF q0 qb HK1 H11
  go_wp2_with fail
  refine (X1.out W3 hl).mono ?_
  rintro e W4 ⟨rfl, hF⟩
  replace bf := (hF.block _ (size_of_block bf)).trans bf
  replace hB := below_then hB hF
  clear hF hl
  obtain ⟨_, _, hEq, -, hn2, hat2⟩ := Ints.open_ H2.out
  cases hEq
  have HA2 := Lib.hid hat2
  obtain ⟨_, _, hEq, -, hn1, hat1⟩ := Spts.open_ H1.out
  cases hEq
  have HA1 := Lib.hid hat1
  clear hat1 hat2
  go_wp2_with fail
  go_loopw [10] (fun i wr => ∃ j : Nat, j ≤ hs.length ∧ i = .int .i64 j ∧ Hid (∀ x ∈ hs.take j, heatB x = true) ∧ wr.heap[w.heap.size]? = some (.cells #[.int .i64 f.rise, .int .i64 f.fall, .int .i64 f.up, .int .i64 f.down, .slice A f.ls.length cap] 24) ∧ Below w.heap.size w wr) (fun i _ => hs.length - (intOf i).toNat)
  case atStart => exact ⟨0, Nat.zero_le _, rfl, by intro x hx; simp at hx, bf, hB⟩
  case round =>
    clear bf hB
    obtain ⟨j, hj, rfl, hI, bf, hB⟩ := hrel
    by_cases hlt : j < hs.length
    · obtain ⟨b, off, x, rfl, hb, hx0, c0⟩ := HA2.out j hlt
      have d0 := (hB.cell (p := ⟨b, off + j, none⟩) hb).trans c0
      have hx := Lib.hid hx0
      clear hx0 c0
      cases hh : heatB x with
      | true =>
        have hI2 : Hid (∀ z ∈ hs.take (j + 1), heatB z = true) := by
          intro z hz
          rw [take_snoc hx.out, List.mem_append, List.mem_singleton] at hz
          rcases hz with hz | rfl
          · exact hI.out z hz
          · exact hh
        go_wp2_with fail
        refine (heat_r _ _).mono ?_
        rintro e w' ⟨rfl, rfl⟩
        rw [hh]
        go_wp2_with fail
        go_roundw
        case rel => exact ⟨j + 1, by omega, by go_num, hI2, bf, hB⟩
        case measure => simp [intOf]; omega
      | false =>
        obtain ⟨rfl, rfl⟩ := HE1.out (by
          rw [Bool.eq_false_iff]; intro h
          have := List.all_eq_true.1 h x (List.mem_of_getElem? hx.out)
          rw [hh] at this; cases this)
        go_wp2_with fail
        refine (heat_r _ _).mono ?_
        rintro e w' ⟨rfl, rfl⟩
        rw [hh]
        go_wp2_with fail
        refine bodyPost_ret (v := .tuple #[.bool false, .int .i64 1]) ?_ rfl ⟨rfl, hB⟩
        simp [results, Tryz.results36, go_sem]
    · obtain rfl : j = hs.length := by omega
      have hall : hs.all heatB = true := by
        rw [List.all_eq_true]; intro x hx; exact hI.out x (by rw [List.take_length]; exact hx)
      have HALL := Lib.hid hall
      have hk := HK.out.later hB
      clear hall
      have c0 := Joins.cell_of_block bf 0
      have c1 := Joins.cell_of_block bf 1
      have c2 := Joins.cell_of_block bf 2
      have c3 := Joins.cell_of_block bf 3
      have c4 := Joins.cell_of_block bf 4
      cases hag : agreeB f f.ls with
      | false =>
        obtain ⟨rfl, rfl⟩ := HE9.out HALL.out hag
        rw [hag] at X3
        go_wp2_with fail
        refine (X3.out wr hk).mono ?_
        rintro e W5 ⟨rfl, hF⟩
        replace hB := below_then hB hF
        clear c0 c1 c2 c3 c4 hF
        go_wp2_with fail
        refine bodyPost_ret (v := .tuple #[.bool false, .int .i64 9]) ?_ rfl ⟨rfl, hB⟩
        simp [results, Tryz.results36, go_sem]
      | true =>
        obtain ⟨rfl, hB2⟩ := HE0.out HALL.out hag
        have HB := Lib.hid hB2
        clear hB2
        rw [hag] at X3
        obtain ⟨wo, rfl⟩ : ∃ wo : World, wo = wr := ⟨_, rfl⟩
        go_wp2_with fail
        refine (X3.out wo hk).mono ?_
        rintro e W5 ⟨rfl, hF⟩
        replace bf := (hF.block _ (size_of_block bf)).trans bf
        replace hB := below_then hB hF
        clear c0 c1 c2 c3 c4 hF hk hag
        go_wp2_with fail
        go_loopw [13] (fun i wr => ∃ j : Nat, j ≤ l.length ∧ i = .int .i64 j ∧ Hid (∀ (i : Nat) p x, i < j → l[i]? = some p → hs[i]? = some x → (endLo f f.ls p ≤ x ∧ x ≤ endHi f f.ls p) ∧ ∀ (k : Nat) q y, l[k]? = some q → hs[k]? = some y → y ≤ x + farI f p q) ∧ wr.heap[w.heap.size]? = some (.cells #[.int .i64 f.rise, .int .i64 f.fall, .int .i64 f.up, .int .i64 f.down, .slice A f.ls.length cap] 24) ∧ Below w.heap.size w wr) (fun i _ => l.length - (intOf i).toNat)
        case atStart => exact ⟨0, Nat.zero_le _, rfl, by intro i p x h; omega, bf, hB⟩
        case round =>
          clear bf hB
          obtain ⟨j, hj, rfl, hJ, bf, hbw⟩ := hrel
          by_cases hlj : j < l.length
          · have hljh : j < hs.length := by have := HN.out; omega
            obtain ⟨b, off, p, rfl, hb, hp0, c0, c1⟩ := HA1.out j hlj
            obtain ⟨b2, o2, x, rfl, hb2, hx0, c2⟩ := HA2.out j hljh
            have hp := Lib.hid hp0
            have hx := Lib.hid hx0
            have hpm := List.mem_of_getElem? hp0
            have hxr := heat_iff.1 (List.all_eq_true.1 HALL.out x (List.mem_of_getElem? hx0))
            have hcc := fun W h => X4.out W p hpm h
            clear hp0 hx0
            have HP := Lib.hid hpm
            clear hpm
            generalize hlo : endLo f f.ls p = lo at hcc
            generalize hhi : endHi f f.ls p = hi at hcc
            have HLO := Lib.hid hlo
            have HHI := Lib.hid hhi
            clear hlo hhi
            have cf0 := Joins.cell_of_block bf 0
            have zq := size_of_block bf
            go_wp2_with fail
            refine wp_region_looseM [] [0, 1, 2, 3, 4] (.one 5 .done) [6] [] [7] [some 14] [.cells #[.int .i64 0, .int .i64 0] 54] (by kernel_rfl) (by kernel_rfl) (by intro c a d v w h; cases d <;> exact h) (by intro c a d v w h; cases d <;> exact h) rfl (by intro r i hri; match r, hri with | 0, hri => cases hri; exact ⟨_, _, rfl, rfl, rfl, rfl, fun a u => by simp [execOp, go_sem, ptrV]⟩) ?_
            simp only [pick, List.filterMap_cons, List.filterMap_nil, List.getElem?_toArray, List.getElem?_cons_succ, List.getElem?_cons_zero]
            intro u hu
            clear cf0 zq
            have tf := (hu.block _ (size_of_block bf)).trans bf
            have ztf := size_of_block tf
            have k0 := Joins.cell_of_block tf 0
            have k1 := Joins.cell_of_block tf 1
            have k2 := Joins.cell_of_block tf 2
            have k3 := Joins.cell_of_block tf 3
            have k4 := Joins.cell_of_block tf 4
            have B1 := below_then hbw hu
            have e0 := (B1.cell (p := ⟨b, off + j * 2, none⟩) hb).trans c0
            have e1 := (B1.cell (p := ⟨b, off + j * 2 + 1, none⟩) hb).trans c1
            have hzu : b < u.heap.size := Nat.lt_of_lt_of_le hb B1.size
            have hcg : ∀ (g : Gr u) b o, b < u.heap.size → g.val.cell? ⟨b, o, none⟩ = u.cell? ⟨b, o, none⟩ := fun g b o h => (bcell g.b).1 b o h
            iterate 5 (refine wpRel_step (fun K hK => ?_); go_simp; refine hK _ ?_; clear hK K)
            refine wpRel_nil fun V0 hb0 => ?_
            clear hcg tf ztf k0 k1 k2 k3 k4 e0 e1 hzu B1
            have D0 := below_then hu hb0
            clear hb0 hu
            refine wpTr_step rfl rfl fun K hK => ?_
            go_simp
            refine (hcc V0 (HK.out.later (below_then hbw D0))).mono ?_
            rintro e X ⟨rfl, hx9⟩
            refine hK _ _ hx9 fun V2 hu2 => ?_
            clear hK K hcc
            have D2 := below_then D0 (below_then hx9 hu2)
            clear hx9 hu2 D0
            show wpPure _ _ _ _
            intro ks hks hall hH
            obtain ⟨k1, rfl⟩ : ∃ k1, ks = [some k1] := by
              match ks, hks with
              | [none], _ => exact absurd rfl (hall 0)
              | [some k1], _ => exact ⟨k1, rfl⟩
            obtain ⟨o1, ge1, lt1⟩ := hH.obj 0 k1 rfl
            rw [show ([Obj.cells #[.int .i64 0, .int .i64 0] 54])[0]? = some (.cells #[.int .i64 0, .int .i64 0] 54) from rfl] at o1
            clear hH hall hks
            show wpList _ _ _ _ _ _
            simp only [deco, ptrV]
            refine wpList_store_rowTo rfl 54 _ _ rfl rfl k1 #[.int .i64 lo, .int .i64 hi] rfl rfl 54 _ o1 (by kernel_rfl) rfl (by kernel_rfl) ?_
            have bl := setRow_heap V2 k1 _ #[.int .i64 lo, .int .i64 hi] _ _ o1
            have HB9 := below_setRow D2 ge1 #[.int .i64 lo, .int .i64 hi]
            clear o1 ge1 lt1 D2
            generalize V2.setRow k1 #[.int .i64 lo, .int .i64 hi] = wL at bl HB9 ⊢
            replace bf := (HB9.block _ (size_of_block bf)).trans bf
            replace hbw := below_then hbw HB9
            clear HB9
            try simp only [Act.put, List.setIfInBounds_toArray, List.set_cons_zero, List.set_cons_succ]
            have e2 := (hbw.cell (p := ⟨b2, o2 + j, none⟩) hb2).trans c2
            have zb2 : b2 < wL.heap.size := Nat.lt_of_lt_of_le hb2 hbw.size
            have zbl := size_of_block bl
            have l0 := Joins.cell_of_block bl 0
            have l1 := Joins.cell_of_block bl 1
            have hin : (lo ≤ x ∧ x ≤ hi) ∨ ¬ (lo ≤ x ∧ x ≤ hi) := Classical.em _
            rcases hin with hin | hin
            · have d7 : decide (x < lo) = false := decide_eq_false (by omega)
              have d8 : decide (x > hi) = false := decide_eq_false (by omega)
              have HIN := Lib.hid hin
              clear hin
              go_wp2_with fail
              refine wp_region_grown (by kernel_rfl) (by kernel_rfl) fun hcg => ?_
              repeat (go_big_quiet_step (fail))
              refine wpQuiet_nil ?_
              intro _ hw'
              obtain ⟨g, hw''⟩ := hw'
              subst hw''
              have gb := g.b
              generalize g.val = wM at gb ⊢
              clear hcg g e2 zb2 zbl l0 l1 bl d7 d8
              replace bf := (gb.block _ (size_of_block bf)).trans bf
              replace hbw := below_then hbw gb
              clear gb
              obtain ⟨wo2, rfl⟩ : ∃ wo : World, wo = wr := ⟨_, rfl⟩
              go_wp2_with fail
              go_loopw [15] (fun i wr => ∃ m : Nat, m ≤ l.length ∧ i = .int .i64 m ∧ Hid (∀ (k : Nat) q y, k < m → l[k]? = some q → hs[k]? = some y → y ≤ x + farI f p q) ∧ wr.heap[w.heap.size]? = some (.cells #[.int .i64 f.rise, .int .i64 f.fall, .int .i64 f.up, .int .i64 f.down, .slice A f.ls.length cap] 24) ∧ Below w.heap.size w wr) (fun i _ => l.length - (intOf i).toNat)
              case atStart => exact ⟨0, Nat.zero_le _, rfl, by intro i p x h; omega, bf, hbw⟩
              case round =>
                clear bf hbw
                obtain ⟨m, hm, rfl, hM, bf, hbw⟩ := hrel
                by_cases hlm : m < l.length
                · have hlmh : m < hs.length := by have := HN.out; omega
                  obtain ⟨_, _, q, hA, _, hq0, g0, g1⟩ := HA1.out m hlm
                  cases hA
                  obtain ⟨_, _, y, hA, _, hy0, g2⟩ := HA2.out m hlmh
                  cases hA
                  have hq := Lib.hid hq0
                  have hy := Lib.hid hy0
                  have hd := X6.out p q HP.out (List.mem_of_getElem? hq0)
                  have hyr := heat_iff.1 (List.all_eq_true.1 HALL.out y (List.mem_of_getElem? hy0))
                  have hcc := fun W => X5.out W p q HP.out (List.mem_of_getElem? hq0)
                  clear hq0 hy0
                  generalize hdd : farI f p q = dd at hd hcc
                  have HDD := Lib.hid hdd
                  have hwr : IntKind.i64.wrap (x + dd) = x + dd := by rw [IntKind.wrap_i64]; omega
                  clear hdd hd hyr
                  have zbf := size_of_block bf
                  have k0 := Joins.cell_of_block bf 0
                  have k1 := Joins.cell_of_block bf 1
                  have k2 := Joins.cell_of_block bf 2
                  have k3 := Joins.cell_of_block bf 3
                  have k4 := Joins.cell_of_block bf 4
                  have e0 := (hbw.cell (p := ⟨b, off + j * 2, none⟩) hb).trans c0
                  have e1 := (hbw.cell (p := ⟨b, off + j * 2 + 1, none⟩) hb).trans c1
                  have e2 := (hbw.cell (p := ⟨b2, o2 + j, none⟩) hb2).trans c2
                  have e3 := (hbw.cell (p := ⟨b, off + m * 2, none⟩) hb).trans g0
                  have e4 := (hbw.cell (p := ⟨b, off + m * 2 + 1, none⟩) hb).trans g1
                  have e5 := (hbw.cell (p := ⟨b2, o2 + m, none⟩) hb2).trans g2
                  have zb : b < wr.heap.size := Nat.lt_of_lt_of_le hb hbw.size
                  have zb2 : b2 < wr.heap.size := Nat.lt_of_lt_of_le hb2 hbw.size
                  have hin : y ≤ x + dd ∨ ¬ y ≤ x + dd := Classical.em _
                  rcases hin with hin | hin
                  · have d7 : decide (y > x + dd) = false := decide_eq_false (by omega)
                    have hM2 : Hid (∀ (k : Nat) q y, k < m + 1 → l[k]? = some q → hs[k]? = some y → y ≤ x + farI f p q) := by
                      intro k q' y' hk hq' hy'
                      rcases Nat.lt_succ_iff_lt_or_eq.1 hk with hk | rfl
                      · exact hM.out k q' y' hk hq' hy'
                      · have e1 := hq.out.symm.trans hq'; have e2 := hy.out.symm.trans hy'; cases e1; cases e2; rw [HDD.out]; exact hin
                    clear hin g0 g1 g2
                    go_wp2_with fail
                    refine wp_region_grown (by kernel_rfl) (by kernel_rfl) fun hcg => ?_
                    repeat (go_big_quiet_step ((go_at_call 59; exact Calls.grown (hcc _))))
                    refine wpQuiet_nil ?_
                    intro _ hw'
                    obtain ⟨g, hw''⟩ := hw'
                    subst hw''
                    have gb := g.b
                    generalize g.val = wM at gb ⊢
                    clear hcg g e0 e1 e2 e3 e4 e5 zb zb2 k0 k1 k2 k3 k4 zbf
                    replace bf := (gb.block _ (size_of_block bf)).trans bf
                    replace hbw := below_then hbw gb
                    clear gb
                    go_wp2_with fail
                    go_roundw
                    case rel => exact ⟨m + 1, by omega, by go_num, hM2, bf, hbw⟩
                    case measure => simp [intOf]; omega
                  · have d7 : decide (y > x + dd) = true := decide_eq_true (by omega)
                    obtain rfl : B = false := by
                      rw [HB.out, Bool.eq_false_iff]
                      intro h
                      have := (fits_idx.1 h j p x hp.out hx.out).2 m q y hq.out hy.out
                      rw [HDD.out] at this; exact hin this
                    clear hin g0 g1 g2
                    go_wp2_with fail
                    refine wp_region_grown (by kernel_rfl) (by kernel_rfl) fun hcg => ?_
                    repeat (go_big_quiet_step ((go_at_call 59; exact Calls.grown (hcc _))))
                    refine wpQuiet_nil ?_
                    intro _ hw'
                    obtain ⟨g, hw''⟩ := hw'
                    subst hw''
                    have hB9 := below_then hbw g.b
                    go_wp2_with fail
                    refine bodyPost_ret (v := .tuple #[.bool false, .int .i64 0]) ?_ rfl ⟨rfl, hB9⟩
                    simp [results, Tryz.results36, go_sem]
                · obtain rfl : m = l.length := by omega
                  have hJ2 : Hid (∀ (i : Nat) p x, i < j + 1 → l[i]? = some p → hs[i]? = some x → (endLo f f.ls p ≤ x ∧ x ≤ endHi f f.ls p) ∧ ∀ (k : Nat) q y, l[k]? = some q → hs[k]? = some y → y ≤ x + farI f p q) := by
                    intro i p' x' hi hp' hx'
                    rcases Nat.lt_succ_iff_lt_or_eq.1 hi with hi | rfl
                    · exact hJ.out i p' x' hi hp' hx'
                    · have e1 := hp.out.symm.trans hp'; have e2 := hx.out.symm.trans hx'; cases e1; cases e2
                      exact ⟨by rw [HLO.out, HHI.out]; exact HIN.out, fun k q y hq hy => hM.out k q y (List.getElem?_eq_some_iff.1 hq).1 hq hy⟩
                  go_wp2_with fail
                  go_roundw
                  case rel => exact ⟨j + 1, by omega, by go_num, hJ2, bf, hbw⟩
                  case measure => simp [intOf]; omega
            · obtain rfl : B = false := by
                rw [HB.out, Bool.eq_false_iff]
                intro h
                have := (fits_idx.1 h j p x hp.out hx.out).1
                rw [HLO.out, HHI.out] at this; exact hin this
              by_cases hx1 : x < lo
              · have d7 : decide (x < lo) = true := decide_eq_true hx1
                clear hin hx1
                go_wp2_with fail
                refine wp_region_grown (by kernel_rfl) (by kernel_rfl) fun hcg => ?_
                repeat (go_big_quiet_step (fail))
                refine wpQuiet_nil ?_
                intro _ hw'
                obtain ⟨g, hw''⟩ := hw'
                subst hw''
                have hB9 := below_then hbw g.b
                go_wp2_with fail
                refine bodyPost_ret (v := .tuple #[.bool false, .int .i64 0]) ?_ rfl ⟨rfl, hB9⟩
                simp [results, Tryz.results36, go_sem]
              · have d7 : decide (x < lo) = false := decide_eq_false hx1
                have d8 : decide (x > hi) = true := decide_eq_true (by omega)
                clear hin hx1
                go_wp2_with fail
                refine wp_region_grown (by kernel_rfl) (by kernel_rfl) fun hcg => ?_
                repeat (go_big_quiet_step (fail))
                refine wpQuiet_nil ?_
                intro _ hw'
                obtain ⟨g, hw''⟩ := hw'
                subst hw''
                have hB9 := below_then hbw g.b
                go_wp2_with fail
                refine bodyPost_ret (v := .tuple #[.bool false, .int .i64 0]) ?_ rfl ⟨rfl, hB9⟩
                simp [results, Tryz.results36, go_sem]
          · obtain rfl : j = l.length := by omega
            obtain rfl : B = true := by
              rw [HB.out]
              exact fits_idx.2 fun i p x hp hx => hJ.out i p x (List.getElem?_eq_some_iff.1 hp).1 hp hx
            go_wp2_with fail
            refine bodyPost_ret (v := .tuple #[.bool true, .int .i64 0]) ?_ rfl ⟨rfl, hbw⟩
            simp [results, Tryz.results36, go_sem]
theorem FitsR_c (f : Fi) (vl v1 v2 : Value) (l : List Spt) (hs : List Int) (w : World) (hl : Lks w w.heap.size vl f.ls) (h1 : Spts w w.heap.size v1 l) (h2 : Ints w w.heap.size v2 hs) : Calls Tryz.prog 36 #[fiV f vl, v1, v2] w fun e w' => e = .returned (.tuple #[.bool (fitsR f l hs), .int .i64 (fitsE f l hs)]) ∧ Below w.heap.size w w' := by
  by_cases hf : fireI f = 0
  · by_cases hs0 : spotsI l = 0
    · by_cases hn : l.length = hs.length
      · exact FitsR_m f vl v1 v2 l hs w hl h1 h2 hf hs0 hn
      · have htold : toldE l hs = 1 := by unfold toldE; rw [if_pos hn]
        have e1 : fitsE f l hs = 1 := known_at hf (by rw [first_next hs0, first1, htold]) (by decide)
        have e2 : fitsR f l hs = false := by unfold fitsR; rw [if_neg (by rw [e1]; decide)]
        rw [e1, e2]
        exact FitsR_l f vl v1 v2 l hs w hl h1 h2 hf hs0 hn
    · have e1 : fitsE f l hs = spotsI l := known_at hf (first_at0 hs0) hs0
      have e2 : fitsR f l hs = false := by unfold fitsR; rw [if_neg (by rw [e1]; exact hs0)]
      rw [e1, e2]
      exact FitsR_b f vl v1 v2 l hs w hl h1 h2 hf hs0
  · have e1 : fitsE f l hs = fireI f := known_fire hf
    have e2 : fitsR f l hs = false := by unfold fitsR; rw [if_neg (by rw [e1]; exact hf)]
    rw [e1, e2]
    exact FitsR_a f vl v1 v2 l hs w hl h1 h2 hf
end Go.Proofs.YtjpoacffnpgjdaaGreat
