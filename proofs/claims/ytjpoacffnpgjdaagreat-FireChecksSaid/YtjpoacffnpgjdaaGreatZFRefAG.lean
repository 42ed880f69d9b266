/- The reference for fires: CheckClash; what SameFire says of two fires that tell the same (written by tools/genckr.py). -/
import Derived.Test.YtjpoacffnpgjdaaGreatZFRefAF
import Derived.Test.YtjpoacffnpgjdaaGreatZFRefW
import Derived.Test.YtjpoacffnpgjdaaGreatJ20
namespace Go.Proofs.YtjpoacffnpgjdaaGreat
open Go Go.RowKit Go.Shelf
attribute [local go_sem] Oper.semAt_some Rel RelAt RelUpon

set_option maxRecDepth 100000 in
set_option maxHeartbeats 4000000 in
theorem CheckClashR_c (f : Fi) (vl : Value) (a b : Int) (w : World) (hl : Lks w w.heap.size vl f.ls) :
    Calls Tryz.prog 21 #[fiV f vl, .int .i64 a, .int .i64 b] w fun e w' => e = .returned (.int .i64 (chkClashI f a b)) ∧ Below w.heap.size w w' := by
  obtain ⟨A, cap, rfl, _, hn, hat⟩ := Lks.open_ hl
  have H := Lib.hid hat
  have HK := Lib.hid hl
  clear hat hl
  have x1 := fun W h => CheckR_c f (.slice A f.ls.length cap) W h
  have x2 := fun W h => look_r f (.slice A f.ls.length cap) a W h
  have x3 := fun W h => look_r f (.slice A f.ls.length cap) b W h
  obtain ⟨R, hR⟩ : ∃ r, r = chkClashI f a b := ⟨_, rfl⟩
  rw [← hR]
  by_cases hE : fireI f = 0
  · have hok := fire_ok hE
    have HC := Lib.hid (fun W x y hx hy => against_r f A f.ls.length cap x y W hok.slope (hok.look x hx) (hok.look y hy))
    rw [hE] at x1
    have HR : R = match f.ls.find? (fun x => x.id == a), f.ls.find? (fun x => x.id == b) with
      | some x, some y => if againstB f x y then 0 else 8
      | _, _ => 5 := by rw [hR]; unfold chkClashI; rw [if_neg (by rw [hE]; simp)]; cases f.ls.find? (fun x => x.id == a) <;> cases f.ls.find? (fun x => x.id == b) <;> rfl
    clear hR hE hok
    rcases look_spec f.ls a with ⟨e1, g1⟩ | ⟨i, x, e1, hx, g1⟩
    · have hR5 : R = 5 := by rw [HR, g1]
      rw [hR5]
      have d1 : decide ((-1 : Int) < 0) = true := by decide
      rw [e1] at x2
      clear HR hR5 e1 g1
      have X1 := Lib.hid x1
      clear x1
      unfold fiV at X1
      have X2 := Lib.hid x2
      have X3 := Lib.hid x3
      unfold fiV at X2 X3 HC
      unfold lkV at HC
      clear x2 x3
      unfold fiV
      go_enter Tryz.func21, Tryz.ntmps21
      have bf := heap_alloc_new w (.cells #[.int .i64 f.rise, .int .i64 f.fall, .int .i64 f.up, .int .i64 f.down, .slice A f.ls.length cap] 24)
      have HB := below_alloc w (.cells #[.int .i64 f.rise, .int .i64 f.fall, .int .i64 f.up, .int .i64 f.down, .slice A f.ls.length cap] 24)
      go_wp2_with fail
      generalize (w.alloc (.cells #[.int .i64 f.rise, .int .i64 f.fall, .int .i64 f.up, .int .i64 f.down, .slice A f.ls.length cap] 24)) = w1 at bf HB  ⊢
      have hB := HB
      clear HB
      have hk := HK.out.later hB
      refine (X1.out w1 hk).mono ?_
      rintro e w2 ⟨rfl, hF⟩
      replace bf := (hF.block _ (size_of_block bf)).trans bf
      replace hk := hk.later hF
      replace hB := below_then hB hF
      clear hF
      have cbf0 := Joins.cell_of_block bf 0
      have cbf1 := Joins.cell_of_block bf 1
      have cbf2 := Joins.cell_of_block bf 2
      have cbf3 := Joins.cell_of_block bf 3
      have cbf4 := Joins.cell_of_block bf 4
      go_wp2_with fail
      refine (X2.out w2 hk).mono ?_
      rintro e w3 ⟨rfl, hF⟩
      clear cbf0 cbf1 cbf2 cbf3 cbf4
      replace bf := (hF.block _ (size_of_block bf)).trans bf
      replace hk := hk.later hF
      replace hB := below_then hB hF
      clear hF
      have cbf0 := Joins.cell_of_block bf 0
      have cbf1 := Joins.cell_of_block bf 1
      have cbf2 := Joins.cell_of_block bf 2
      have cbf3 := Joins.cell_of_block bf 3
      have cbf4 := Joins.cell_of_block bf 4
      go_wp2_with fail
      refine (X3.out w3 hk).mono ?_
      rintro e w4 ⟨rfl, hF⟩
      clear cbf0 cbf1 cbf2 cbf3 cbf4
      replace bf := (hF.block _ (size_of_block bf)).trans bf
      replace hk := hk.later hF
      replace hB := below_then hB hF
      clear hF
      go_wp2_with fail
      go_ret
      exact ⟨rfl, hB⟩
    · have d1 : decide ((i : Int) < 0) = false := decide_eq_false (by omega)
      rcases look_spec f.ls b with ⟨e2, g2⟩ | ⟨m, y, e2, hy, g2⟩
      · have hR5 : R = 5 := by rw [HR, g1, g2]
        rw [hR5]
        have d2 : decide ((-1 : Int) < 0) = true := by decide
        rw [e1] at x2
        rw [e2] at x3
        clear HR hR5 e1 g1 e2 g2 hx
        have X1 := Lib.hid x1
        clear x1
        unfold fiV at X1
        have X2 := Lib.hid x2
        have X3 := Lib.hid x3
        unfold fiV at X2 X3 HC
        unfold lkV at HC
        clear x2 x3
        unfold fiV
        go_enter Tryz.func21, Tryz.ntmps21
        have bf := heap_alloc_new w (.cells #[.int .i64 f.rise, .int .i64 f.fall, .int .i64 f.up, .int .i64 f.down, .slice A f.ls.length cap] 24)
        have HB := below_alloc w (.cells #[.int .i64 f.rise, .int .i64 f.fall, .int .i64 f.up, .int .i64 f.down, .slice A f.ls.length cap] 24)
        go_wp2_with fail
        generalize (w.alloc (.cells #[.int .i64 f.rise, .int .i64 f.fall, .int .i64 f.up, .int .i64 f.down, .slice A f.ls.length cap] 24)) = w1 at bf HB  ⊢
        have hB := HB
        clear HB
        have hk := HK.out.later hB
        refine (X1.out w1 hk).mono ?_
        rintro e w2 ⟨rfl, hF⟩
        replace bf := (hF.block _ (size_of_block bf)).trans bf
        replace hk := hk.later hF
        replace hB := below_then hB hF
        clear hF
        have cbf0 := Joins.cell_of_block bf 0
        have cbf1 := Joins.cell_of_block bf 1
        have cbf2 := Joins.cell_of_block bf 2
        have cbf3 := Joins.cell_of_block bf 3
        have cbf4 := Joins.cell_of_block bf 4
        go_wp2_with fail
        refine (X2.out w2 hk).mono ?_
        rintro e w3 ⟨rfl, hF⟩
        clear cbf0 cbf1 cbf2 cbf3 cbf4
        replace bf := (hF.block _ (size_of_block bf)).trans bf
        replace hk := hk.later hF
        replace hB := below_then hB hF
        clear hF
        have cbf0 := Joins.cell_of_block bf 0
        have cbf1 := Joins.cell_of_block bf 1
        have cbf2 := Joins.cell_of_block bf 2
        have cbf3 := Joins.cell_of_block bf 3
        have cbf4 := Joins.cell_of_block bf 4
        go_wp2_with fail
        refine (X3.out w3 hk).mono ?_
        rintro e w4 ⟨rfl, hF⟩
        clear cbf0 cbf1 cbf2 cbf3 cbf4
        replace bf := (hF.block _ (size_of_block bf)).trans bf
        replace hk := hk.later hF
        replace hB := below_then hB hF
        clear hF
        go_wp2_with fail
        go_ret
        exact ⟨rfl, hB⟩
      · have d2 : decide ((m : Int) < 0) = false := decide_eq_false (by omega)
        rw [g1, g2] at HR
        dsimp only at HR
        rw [e1] at x2
        rw [e2] at x3
        have hx := Lib.hid hx
        have hy := Lib.hid hy
        clear e1 g1 e2 g2
        cases hag : againstB f x y with
        | false =>
          rw [hag, if_neg (by decide)] at HR
          rw [HR]
          clear HR
          have X1 := Lib.hid x1
          clear x1
          unfold fiV at X1
          have X2 := Lib.hid x2
          have X3 := Lib.hid x3
          unfold fiV at X2 X3 HC
          unfold lkV at HC
          clear x2 x3
          unfold fiV
          go_enter Tryz.func21, Tryz.ntmps21
          have bf := heap_alloc_new w (.cells #[.int .i64 f.rise, .int .i64 f.fall, .int .i64 f.up, .int .i64 f.down, .slice A f.ls.length cap] 24)
          have HB := below_alloc w (.cells #[.int .i64 f.rise, .int .i64 f.fall, .int .i64 f.up, .int .i64 f.down, .slice A f.ls.length cap] 24)
          go_wp2_with fail
          generalize (w.alloc (.cells #[.int .i64 f.rise, .int .i64 f.fall, .int .i64 f.up, .int .i64 f.down, .slice A f.ls.length cap] 24)) = w1 at bf HB  ⊢
          have hB := HB
          clear HB
          have hk := HK.out.later hB
          refine (X1.out w1 hk).mono ?_
          rintro e w2 ⟨rfl, hF⟩
          replace bf := (hF.block _ (size_of_block bf)).trans bf
          replace hk := hk.later hF
          replace hB := below_then hB hF
          clear hF
          have cbf0 := Joins.cell_of_block bf 0
          have cbf1 := Joins.cell_of_block bf 1
          have cbf2 := Joins.cell_of_block bf 2
          have cbf3 := Joins.cell_of_block bf 3
          have cbf4 := Joins.cell_of_block bf 4
          go_wp2_with fail
          refine (X2.out w2 hk).mono ?_
          rintro e w3 ⟨rfl, hF⟩
          clear cbf0 cbf1 cbf2 cbf3 cbf4
          replace bf := (hF.block _ (size_of_block bf)).trans bf
          replace hk := hk.later hF
          replace hB := below_then hB hF
          clear hF
          have cbf0 := Joins.cell_of_block bf 0
          have cbf1 := Joins.cell_of_block bf 1
          have cbf2 := Joins.cell_of_block bf 2
          have cbf3 := Joins.cell_of_block bf 3
          have cbf4 := Joins.cell_of_block bf 4
          go_wp2_with fail
          refine (X3.out w3 hk).mono ?_
          rintro e w4 ⟨rfl, hF⟩
          clear cbf0 cbf1 cbf2 cbf3 cbf4
          replace bf := (hF.block _ (size_of_block bf)).trans bf
          replace hk := hk.later hF
          replace hB := below_then hB hF
          clear hF
          obtain ⟨bb, off, x', hA, hb, hx0, x0, x1, x2, x3, x4⟩ := H.out i (List.getElem?_eq_some_iff.1 hx.out).1
          cases hA
          obtain rfl : x' = x := Option.some.inj (hx0.symm.trans hx.out)
          obtain ⟨b2, off2, y', hA, _, hy0, y0, y1, y2, y3, y4⟩ := H.out m (List.getElem?_eq_some_iff.1 hy.out).1
          cases hA
          obtain rfl : y' = y := Option.some.inj (hy0.symm.trans hy.out)
          clear hx0 hy0
          have bw : ∀ o, w4.cell? ⟨bb, o, none⟩ = w.cell? ⟨bb, o, none⟩ := fun o => hB.cell (p := ⟨bb, o, none⟩) hb
          have cx0 := (bw _).trans x0
          have cx1 := (bw _).trans x1
          have cx2 := (bw _).trans x2
          have cx3 := (bw _).trans x3
          have cx4 := (bw _).trans x4
          have cy0 := (bw _).trans y0
          have cy1 := (bw _).trans y1
          have cy2 := (bw _).trans y2
          have cy3 := (bw _).trans y3
          have cy4 := (bw _).trans y4
          have zb : bb < w4.heap.size := Nat.lt_of_lt_of_le hb hB.size
          have zbf := size_of_block bf
          have hil := (List.getElem?_eq_some_iff.1 hx.out).1
          have hml := (List.getElem?_eq_some_iff.1 hy.out).1
          have cbf0 := Joins.cell_of_block bf 0
          have cbf1 := Joins.cell_of_block bf 1
          have cbf2 := Joins.cell_of_block bf 2
          have cbf3 := Joins.cell_of_block bf 3
          have cbf4 := Joins.cell_of_block bf 4
          clear bw x0 x1 x2 x3 x4 y0 y1 y2 y3 y4
          have hcc := fun W => HC.out W _ _ (List.mem_of_getElem? hx.out) (List.mem_of_getElem? hy.out)
          rw [hag] at hcc
          go_wp2_with fail
          refine wp_region_grown (by kernel_rfl) (by kernel_rfl) fun hcg => ?_
          repeat (go_big_quiet_step ((go_at_call 62; exact Calls.grown (hcc _))))
          refine wpQuiet_nil ?_
          intro _ hw'
          obtain ⟨g, hw''⟩ := hw'
          subst hw''
          have gb := g.b
          replace hB := below_then hB gb
          go_wp2_with fail
          go_ret
          exact ⟨rfl, hB⟩
        | true =>
          rw [hag, if_pos rfl] at HR
          rw [HR]
          clear HR
          have X1 := Lib.hid x1
          clear x1
          unfold fiV at X1
          have X2 := Lib.hid x2
          have X3 := Lib.hid x3
          unfold fiV at X2 X3 HC
          unfold lkV at HC
          clear x2 x3
          unfold fiV
          go_enter Tryz.func21, Tryz.ntmps21
          have bf := heap_alloc_new w (.cells #[.int .i64 f.rise, .int .i64 f.fall, .int .i64 f.up, .int .i64 f.down, .slice A f.ls.length cap] 24)
          have HB := below_alloc w (.cells #[.int .i64 f.rise, .int .i64 f.fall, .int .i64 f.up, .int .i64 f.down, .slice A f.ls.length cap] 24)
          go_wp2_with fail
          generalize (w.alloc (.cells #[.int .i64 f.rise, .int .i64 f.fall, .int .i64 f.up, .int .i64 f.down, .slice A f.ls.length cap] 24)) = w1 at bf HB  ⊢
          have hB := HB
          clear HB
          have hk := HK.out.later hB
          refine (X1.out w1 hk).mono ?_
          rintro e w2 ⟨rfl, hF⟩
          replace bf := (hF.block _ (size_of_block bf)).trans bf
          replace hk := hk.later hF
          replace hB := below_then hB hF
          clear hF
          have cbf0 := Joins.cell_of_block bf 0
          have cbf1 := Joins.cell_of_block bf 1
          have cbf2 := Joins.cell_of_block bf 2
          have cbf3 := Joins.cell_of_block bf 3
          have cbf4 := Joins.cell_of_block bf 4
          go_wp2_with fail
          refine (X2.out w2 hk).mono ?_
          rintro e w3 ⟨rfl, hF⟩
          clear cbf0 cbf1 cbf2 cbf3 cbf4
          replace bf := (hF.block _ (size_of_block bf)).trans bf
          replace hk := hk.later hF
          replace hB := below_then hB hF
          clear hF
          have cbf0 := Joins.cell_of_block bf 0
          have cbf1 := Joins.cell_of_block bf 1
          have cbf2 := Joins.cell_of_block bf 2
          have cbf3 := Joins.cell_of_block bf 3
          have cbf4 := Joins.cell_of_block bf 4
          go_wp2_with fail
          refine (X3.out w3 hk).mono ?_
          rintro e w4 ⟨rfl, hF⟩
          clear cbf0 cbf1 cbf2 cbf3 cbf4
          replace bf := (hF.block _ (size_of_block bf)).trans bf
          replace hk := hk.later hF
          replace hB := below_then hB hF
          clear hF
          obtain ⟨bb, off, x', hA, hb, hx0, x0, x1, x2, x3, x4⟩ := H.out i (List.getElem?_eq_some_iff.1 hx.out).1
          cases hA
          obtain rfl : x' = x := Option.some.inj (hx0.symm.trans hx.out)
          obtain ⟨b2, off2, y', hA, _, hy0, y0, y1, y2, y3, y4⟩ := H.out m (List.getElem?_eq_some_iff.1 hy.out).1
          cases hA
          obtain rfl : y' = y := Option.some.inj (hy0.symm.trans hy.out)
          clear hx0 hy0
          have bw : ∀ o, w4.cell? ⟨bb, o, none⟩ = w.cell? ⟨bb, o, none⟩ := fun o => hB.cell (p := ⟨bb, o, none⟩) hb
          have cx0 := (bw _).trans x0
          have cx1 := (bw _).trans x1
          have cx2 := (bw _).trans x2
          have cx3 := (bw _).trans x3
          have cx4 := (bw _).trans x4
          have cy0 := (bw _).trans y0
          have cy1 := (bw _).trans y1
          have cy2 := (bw _).trans y2
          have cy3 := (bw _).trans y3
          have cy4 := (bw _).trans y4
          have zb : bb < w4.heap.size := Nat.lt_of_lt_of_le hb hB.size
          have zbf := size_of_block bf
          have hil := (List.getElem?_eq_some_iff.1 hx.out).1
          have hml := (List.getElem?_eq_some_iff.1 hy.out).1
          have cbf0 := Joins.cell_of_block bf 0
          have cbf1 := Joins.cell_of_block bf 1
          have cbf2 := Joins.cell_of_block bf 2
          have cbf3 := Joins.cell_of_block bf 3
          have cbf4 := Joins.cell_of_block bf 4
          clear bw x0 x1 x2 x3 x4 y0 y1 y2 y3 y4
          have hcc := fun W => HC.out W _ _ (List.mem_of_getElem? hx.out) (List.mem_of_getElem? hy.out)
          rw [hag] at hcc
          go_wp2_with fail
          refine wp_region_grown (by kernel_rfl) (by kernel_rfl) fun hcg => ?_
          repeat (go_big_quiet_step ((go_at_call 62; exact Calls.grown (hcc _))))
          refine wpQuiet_nil ?_
          intro _ hw'
          obtain ⟨g, hw''⟩ := hw'
          subst hw''
          have gb := g.b
          replace hB := below_then hB gb
          go_wp2_with fail
          go_ret
          exact ⟨rfl, hB⟩
  · have d1 : (fireI f != 0) = true := by simpa using hE
    have e1 : chkClashI f a b = fireI f := by unfold chkClashI; rw [if_pos hE]
    rw [hR, e1]
    clear hR e1 hE
    generalize fireI f = E at x1 d1 ⊢
    have X1 := Lib.hid x1
    clear x1
    unfold fiV at X1
    clear x2 x3
    unfold fiV
    go_enter Tryz.func21, Tryz.ntmps21
    have bf := heap_alloc_new w (.cells #[.int .i64 f.rise, .int .i64 f.fall, .int .i64 f.up, .int .i64 f.down, .slice A f.ls.length cap] 24)
    have HB := below_alloc w (.cells #[.int .i64 f.rise, .int .i64 f.fall, .int .i64 f.up, .int .i64 f.down, .slice A f.ls.length cap] 24)
    go_wp2_with fail
    generalize (w.alloc (.cells #[.int .i64 f.rise, .int .i64 f.fall, .int .i64 f.up, .int .i64 f.down, .slice A f.ls.length cap] 24)) = w1 at bf HB  ⊢
    have hB := HB
    clear HB
    have hk := HK.out.later hB
    refine (X1.out w1 hk).mono ?_
    rintro e w2 ⟨rfl, hF⟩
    replace bf := (hF.block _ (size_of_block bf)).trans bf
    replace hk := hk.later hF
    replace hB := below_then hB hF
    clear hF
    go_wp2_with fail
    go_ret
    exact ⟨rfl, hB⟩
theorem Tryz.inLk (x : Lk) (w : World) (n : Nat) : (Op.equalIn (n + 6) 90 (.agg #[.int .i64 x.id, .int .i64 x.foot, .int .i64 x.hour, .int .i64 x.lo, .int .i64 x.hi]) (.agg #[.int .i64 x.id, .int .i64 x.foot, .int .i64 x.hour, .int .i64 x.lo, .int .i64 x.hi])).run Tryz.prog w = .ok true w := by
  have u3 := Tryz.underlying3
  have hS : Tryz.prog.underlying 90 = some (.struct (Tryz.prog.fieldsOf 90)) := by kernel_rfl
  have hp : Tryz.prog.stoodInHeld 90 = false := by kernel_rfl
  rw [run_equalIn_agg w (n + 5) 90 _ _ hS hp]
  simp only [Program.fieldsOf, Tryz.underlying90]
  go_simp
theorem Tryz.neLk (x : Lk) (w : World) : (binOp .neq 90 (.agg #[.int .i64 x.id, .int .i64 x.foot, .int .i64 x.hour, .int .i64 x.lo, .int .i64 x.hi]) (.agg #[.int .i64 x.id, .int .i64 x.foot, .int .i64 x.hour, .int .i64 x.lo, .int .i64 x.hi])).run Tryz.prog w = .ok (.bool false) w := (Tryz.eqOf (Tryz.inLk x w 9994)).2
set_option maxRecDepth 100000 in
set_option maxHeartbeats 4000000 in
theorem sameFire_c (f : Fi) (v1 v2 : Value) (w : World) (h1 : Lks w w.heap.size v1 f.ls) (h2 : Lks w w.heap.size v2 f.ls) :
    Calls Tryz.prog 23 #[fiV f v1, fiV f v2] w fun e w' => e = .returned (.bool true) ∧ Below w.heap.size w w' := by
  obtain ⟨A1, cap1, rfl, _, hn, hat1⟩ := Lks.open_ h1
  obtain ⟨A2, cap2, rfl, _, _, hat2⟩ := Lks.open_ h2
  have H1 := Lib.hid hat1
  have H2 := Lib.hid hat2
  clear hat1 hat2 h1 h2
  obtain ⟨q0, q1, -, qb⟩ := two_new' w (.cells #[.int .i64 f.rise, .int .i64 f.fall, .int .i64 f.up, .int .i64 f.down, .slice A1 f.ls.length cap1] 24) (.cells #[.int .i64 f.rise, .int .i64 f.fall, .int .i64 f.up, .int .i64 f.down, .slice A2 f.ls.length cap2] 24)
  have d0 : ∀ z : Int, (z != z) = false := fun z => by simp
  unfold fiV
  go_enter Tryz.func23, Tryz.ntmps23
  have c00 := Joins.cell_of_block q0 0
  have c01 := Joins.cell_of_block q0 1
  have c02 := Joins.cell_of_block q0 2
  have c03 := Joins.cell_of_block q0 3
  have c04 := Joins.cell_of_block q0 4
  have c10 := Joins.cell_of_block q1 0
  have c11 := Joins.cell_of_block q1 1
  have c12 := Joins.cell_of_block q1 2
  have c13 := Joins.cell_of_block q1 3
  have c14 := Joins.cell_of_block q1 4
  go_wp2_with fail
  clear c00 c01 c02 c03 c04 c10 c11 c12 c13 c14
  generalize (w.alloc _).alloc _ = W1 at q0 q1 qb ⊢
  go_loopw [5] (fun i wr => ∃ j : Nat, j ≤ f.ls.length ∧ i = .int .i64 j ∧ wr.heap[w.heap.size]? = some (.cells #[.int .i64 f.rise, .int .i64 f.fall, .int .i64 f.up, .int .i64 f.down, .slice A1 f.ls.length cap1] 24) ∧ wr.heap[w.heap.size + 1]? = some (.cells #[.int .i64 f.rise, .int .i64 f.fall, .int .i64 f.up, .int .i64 f.down, .slice A2 f.ls.length cap2] 24) ∧ Below w.heap.size w wr) (fun i _ => f.ls.length - (intOf i).toNat)
  case atStart => exact ⟨0, Nat.zero_le _, rfl, q0, q1, qb⟩
  case round =>
    clear q0 q1 qb
    obtain ⟨j, hj, rfl, bf, bg, hbw⟩ := hrel
    have cf4 := Joins.cell_of_block bf 4
    by_cases hlt : j < f.ls.length
    · obtain ⟨b, off, x, hA, hb, hx0, x0, x1, x2, x3, x4⟩ := H1.out j hlt
      subst hA
      obtain ⟨b2, off2, y, hA, hb2, hy0, y0, y1, y2, y3, y4⟩ := H2.out j hlt
      subst hA
      obtain rfl : x = y := Option.some.inj (hx0.symm.trans hy0)
      clear hx0 hy0
      have zbf := size_of_block bf
      have zbg := size_of_block bg
      have cg4 := Joins.cell_of_block bg 4
      have e0 := (hbw.cell (p := ⟨b, off + j * 5, none⟩) hb).trans x0
      have g0 := (hbw.cell (p := ⟨b2, off2 + j * 5, none⟩) hb2).trans y0
      have e1 := (hbw.cell (p := ⟨b, off + j * 5 + 1, none⟩) hb).trans x1
      have g1 := (hbw.cell (p := ⟨b2, off2 + j * 5 + 1, none⟩) hb2).trans y1
      have e2 := (hbw.cell (p := ⟨b, off + j * 5 + 2, none⟩) hb).trans x2
      have g2 := (hbw.cell (p := ⟨b2, off2 + j * 5 + 2, none⟩) hb2).trans y2
      have e3 := (hbw.cell (p := ⟨b, off + j * 5 + 3, none⟩) hb).trans x3
      have g3 := (hbw.cell (p := ⟨b2, off2 + j * 5 + 3, none⟩) hb2).trans y3
      have e4 := (hbw.cell (p := ⟨b, off + j * 5 + 4, none⟩) hb).trans x4
      have g4 := (hbw.cell (p := ⟨b2, off2 + j * 5 + 4, none⟩) hb2).trans y4
      have zb : b < wr.heap.size := Nat.lt_of_lt_of_le hb hbw.size
      have zb2 : b2 < wr.heap.size := Nat.lt_of_lt_of_le hb2 hbw.size
      have hne := fun W => Tryz.neLk x W
      clear x0 x1 x2 x3 x4 y0 y1 y2 y3 y4
      go_wp2_with fail
      refine wp_region_grown (by kernel_rfl) (by kernel_rfl) fun hcg => ?_
      repeat (go_big_quiet_step (fail))
      refine wpQuiet_nil ?_
      intro _ hw'
      obtain ⟨g, hw''⟩ := hw'
      subst hw''
      have gb := g.b
      generalize g.val = wM at gb ⊢
      replace bf := (gb.block _ (size_of_block bf)).trans bf
      replace bg := (gb.block _ (size_of_block bg)).trans bg
      replace hbw := below_then hbw gb
      clear gb hcg g cf4 cg4 e0 e1 e2 e3 e4 g0 g1 g2 g3 g4 hne zbf zbg zb zb2
      go_wp2_with fail
      go_roundw
      case rel => exact ⟨j + 1, by omega, by go_num, bf, bg, hbw⟩
      case measure => simp [intOf]; omega
    · obtain rfl : j = f.ls.length := by omega
      go_wp2_with fail
      go_ret
      exact ⟨rfl, hbw⟩
end Go.Proofs.YtjpoacffnpgjdaaGreat
