/- Texts joined: 3ProgM 3ProgAG. -/
import Derived.Test.YtaaeipjnhjgjdaaJ20
import Derived.Test.YtaaeipjnhjgjdaaJ17
import Derived.Test.YtaaeipjnhjgjdaaJ18
/- The ends of a sort, by package sample. -/
namespace Go.Proofs.Ytaaeipjnhjgjdaa
open Go Go.RowKit Go.Shelf
attribute [local go_sem] Oper.semAt_some

theorem Kp.setCell {n₀ B : Nat} {U : List TypeId} {W W' : World} (h : Kp n₀ B U W W') {p : Addr} (hn : n₀ ≤ p.block) (hB : p.block < B) (v : Value) : Kp n₀ B U W (W'.setCell p v) :=
  ⟨h.b.setCell hn v, fun k cs ty fr hk hx hu => (Below.heap_setCell W' p v k (by omega)).trans (h.t k cs ty fr hk hx hu)⟩
theorem keeps_setCell {B : Nat} {W W' : World} (h : KeepsFrom B W W') (p : Addr) (v : Value) : KeepsFrom B W (W'.setCell p v) := h.trans ((KeepsOthers.setCell _ _ _).from _)
theorem checkSort_c (b : Bt) (s : Int) (w : World) : Calls Try.prog 82 #[btV b, .int .i64 s] w fun e w' => e = .returned (.int .i64 (kindI b s)) ∧ Below w.heap.size w w' := by
  unfold btV
  by_cases h : checkB b = 0
  · have HK := Lib.hid (show kindI b s = if inI s 0 2 = true then 0 else 1 by unfold kindI; rw [if_neg (by rw [h]; simp)])
    have hd : (checkB b != 0) = false := by simpa using h
    have HH := Lib.hid h
    clear h
    rcases Bool.eq_false_or_eq_true (inI s 0 2) with hi | hi
    · have HI := Lib.hid hi
      clear hi
      go_enter Try.func82, Try.ntmps82
      go_wp2_with fail
      refine (Check_c b _).mono ?_
      rintro e w1 ⟨rfl, hb1⟩
      go_wp2_with fail
      refine (sortP_c s _).mono ?_
      rintro e w2 ⟨rfl, rfl⟩
      rw [HI.out]
      go_wp2_with fail
      go_ret
      exact ⟨ret_int (by rw [HK.out, HI.out, if_pos rfl]), below_then (below_alloc _ _) hb1⟩
    · have HI := Lib.hid hi
      clear hi
      go_enter Try.func82, Try.ntmps82
      go_wp2_with fail
      refine (Check_c b _).mono ?_
      rintro e w1 ⟨rfl, hb1⟩
      go_wp2_with fail
      refine (sortP_c s _).mono ?_
      rintro e w2 ⟨rfl, rfl⟩
      rw [HI.out]
      go_wp2_with fail
      go_ret
      exact ⟨ret_int (by rw [HK.out, HI.out, if_neg (by simp)]), below_then (below_alloc _ _) hb1⟩
  · have HK := Lib.hid (show kindI b s = checkB b by unfold kindI; rw [if_pos h])
    have hd : (checkB b != 0) = true := by simpa using h
    clear h
    go_enter Try.func82, Try.ntmps82
    go_wp2_with fail
    refine (Check_c b _).mono ?_
    rintro e w1 ⟨rfl, hb1⟩
    go_wp2_with fail
    go_ret
    exact ⟨ret_int HK.out.symm, below_then (below_alloc _ _) hb1⟩
theorem four_new (w : World) (o0 o1 o2 o3 : Obj) : ((((w.alloc o0).alloc o1).alloc o2).alloc o3).heap[w.heap.size]? = some o0 ∧ ((((w.alloc o0).alloc o1).alloc o2).alloc o3).heap[w.heap.size + 1]? = some o1 ∧ ((((w.alloc o0).alloc o1).alloc o2).alloc o3).heap[w.heap.size + 1 + 1]? = some o2 ∧
    ((((w.alloc o0).alloc o1).alloc o2).alloc o3).heap[w.heap.size + 1 + 1 + 1]? = some o3 ∧ ((((w.alloc o0).alloc o1).alloc o2).alloc o3).heap.size = w.heap.size + 4 ∧ Below w.heap.size w ((((w.alloc o0).alloc o1).alloc o2).alloc o3) := by
  obtain ⟨a, b, c, d, e⟩ := three_new w o0 o1 o2
  have f := heap_alloc_new (((w.alloc o0).alloc o1).alloc o2) o3
  have k := below_alloc (((w.alloc o0).alloc o1).alloc o2) o3
  simp only [World.size_alloc] at f k d
  refine ⟨?_, ?_, ?_, f, by simp only [World.size_alloc], below_then e (below_alloc _ o3)⟩
  · rw [k.block _ (by omega)]; exact a
  · rw [k.block _ (by omega)]; exact b
  · rw [k.block _ (by omega)]; exact c
set_option maxRecDepth 100000 in
set_option maxHeartbeats 4000000 in
theorem ends_c (b : Bt) (s : Int) (w : World) (h : checkB b = 0) (h0 : 0 ≤ s) (h2 : s ≤ 2) :
    Calls Try.prog 83 #[btV b, .int .i64 s] w fun e w' => e = .returned (spV (endsI b s)) ∧ Below w.heap.size w w' := by
  obtain ⟨q0, q1, q2, q3, qs, qb⟩ := four_new w (.cells (btC b) 34) (.cells #[.int .i64 s] 3) (.cells #[.int .i64 0, .int .i64 0] 31) (.cells #[.int .i64 b.n, .int .i64 0] 31)
  have hne := (check_ok h).2
  have hr := (check_ok h).1
  have HW := Lib.hid (wholesA_eq hr)
  have HR := Lib.hid hr
  have HE := Lib.hid (endsF_eq h s)
  unfold btC at q0 q1 q2 q3 qs qb
  clear h hne hr
  unfold btV
  (refine (callsIn_wide (n := 9)).1 (callsIn_of_wp_marks Try.func83 rfl trivial ?_ rfl); simp only [Try.ntmps83, List.size_toArray, List.length_cons, List.length_nil, Nat.reduceAdd, Nat.reduceSub, Array.replicate_succ, Array.replicate_zero, List.push_toArray, List.append_toArray, List.nil_append, List.cons_append])
  gi_wp2_with fail
  generalize (((w.alloc _).alloc _).alloc _).alloc _ = W1 at q0 q1 q2 q3 qs qb ⊢
  refine ⟨trivial, calls_any (r := none) ((wholesP_c b _).mono ?_)⟩
  rintro e w4 ⟨rfl, rfl⟩
  have n4 := heap_alloc_new W1 (.cells (btC b) 34)
  have a4 := below_alloc W1 (.cells (btC b) 34)
  generalize W1.alloc (.cells (btC b) 34) = W4 at n4 a4 ⊢
  have z1 := (a4.block _ (size_of_block q1)).trans q1
  have z2 := (a4.block _ (size_of_block q2)).trans q2
  have z3 := (a4.block _ (size_of_block q3)).trans q3
  have B4 := below_then qb a4
  have s4 := B4.size
  have s5 := a4.size
  have QS := Lib.hid qs
  clear q0 q1 q2 q3 qb a4 qs
  gi_wp2_with fail
  have qs := QS.out
  refine wpIn_over (wholes_g2 (U := 34 :: wholesU) (fun _ h => List.mem_cons_of_mem _ h) (n₀ := w.heap.size) (B := W1.heap.size) (Nat.le_refl _) (by simp) HR.out (by omega) (by omega) n4) rfl (fun _ => rfl) (by omega)
    (fun pre W' => (W'.heap[w.heap.size + 1 + 1 + 1]? = some (.cells #[.int .i64 (endsF b.n s pre).lo, .int .i64 (endsF b.n s pre).hi] 31) ∧ W'.heap[w.heap.size + 1]? = some (.cells #[.int .i64 s] 3)) ∧ W'.heap[w.heap.size + 1 + 1]? = some (.cells #[.int .i64 0, .int .i64 0] 31) ∧ Below w.heap.size w W')
    (fun _ _ _ => False)
    (((own_cells _ _ _ fun _ => rfl).and (own_cells _ _ _ fun _ => rfl)).and ((own_cells _ _ _ fun _ => rfl).and (ownFrom_below (Nat.le_refl _) (by omega))))
    (fun _ _ _ _ _ hs _ _ => hs) ⟨⟨z3, z1⟩, z2, B4⟩
    (fun x a' W' => ∃ Bx, w.heap.size + 4 ≤ Bx ∧ W'.heap[Bx]? = some (.cells #[.int .i64 x.a, .int .i64 x.b, .int .i64 x.c] 23) ∧ a' = { tmps := #[btV b, .int .i64 s, .pointer (some ⟨w.heap.size, 0, none⟩), .pointer (some ⟨w.heap.size + 1, 0, none⟩), .pointer (some ⟨w.heap.size + 1 + 1, 0, none⟩), .pointer (some ⟨w.heap.size + 1 + 1 + 1, 0, none⟩), .pointer (some ⟨Bx, 0, none⟩), .pointer (some ⟨w.heap.size, 0, none⟩), .int .i64 b.n, .agg #[.int .i64 b.n, .int .i64 0], btV b, .func (.func 136) #[] #[.pointer (some ⟨W1.heap.size, 0, none⟩)], k3V x, undef, undef, undef, undef, undef, undef, undef, undef, undef, undef, undef, undef, undef, undef], defers := [] })
    (fun x a' s' X Y row hs hg hrow => by
      obtain ⟨Bx, h1, h2, h3⟩ := hs
      exact ⟨Bx, h1, own_cells (β := Unit) W4.heap.size Bx (fun _ => .cells #[.int .i64 x.a, .int .i64 x.b, .int .i64 x.c] 23) (fun _ => rfl) s' X Y row h2 hg hrow, h3⟩) ?assign ?body ?done ?stop
  case assign =>
    clear qs
    rintro l pre x W' K hl ⟨⟨i1, i2⟩, i3, i4⟩ hp hK
    unfold encK
    gi_wp2
    have ha := below_alloc W' (.cells #[.int .i64 x.a, .int .i64 x.b, .int .i64 x.c] 23)
    have hz := size_of_block i1
    have hsz := i4.size
    refine hK _ _ (keeps_of_below ha) (Kp.of_below ha hsz) ⟨⟨(ha.block _ hz).trans i1, (ha.block _ (size_of_block i2)).trans i2⟩, (ha.block _ (size_of_block i3)).trans i3, below_then i4 ha⟩ ⟨W'.heap.size, by omega, heap_alloc_new _ _, rfl⟩
  case done =>
    clear qs
    rintro D W' hD ⟨⟨i1, i2⟩, i3, i4⟩ hK
    have e0 := Joins.cell_of_block i1 0
    have e1 := Joins.cell_of_block i1 1
    have f0 := Joins.unfrozen_of_block i3 0
    have f1 := Joins.unfrozen_of_block i3 1
    have g0 := Joins.cell_of_block i3 0
    have g1 := Joins.cell_of_block i3 1
    have v1 := size_of_block i1
    have v3 := size_of_block i3
    have hD2 : w.heap.size + 4 < D := by have := QS.out; have := size_of_block n4; omega
    have hne : D ≠ w.heap.size + 1 + 1 := by omega
    have hK' : ∀ x y, ((W'.setCell ⟨w.heap.size + 1 + 1, 0, none⟩ x).setCell ⟨w.heap.size + 1 + 1, 1, none⟩ y).heap[D]? = some (.deferred (some [])) := fun x y =>
      (KeepsOthers.setCell _ _ _).same D _ ((KeepsOthers.setCell _ _ _).same D _ hK rfl) rfl
    have HB := Lib.hid i4
    have m9 := fun x y => (World.putObj_heap_other (w := (W'.setCell ⟨w.heap.size + 1 + 1, 0, none⟩ x).setCell ⟨w.heap.size + 1 + 1, 1, none⟩ y) (o := .deferred none) (show w.heap.size + 1 + 1 ≠ D by omega)).trans (Joins.block_setCell (i := 1) (Joins.block_setCell (i := 0) i3 x) y)
    have HP := Lib.hid fun x y => And.intro (Joins.cell_of_block (m9 x y) 0) (Joins.cell_of_block (m9 x y) 1)
    clear m9
    have HEs : endsF b.n s (wholesA b) = endsI b s := by rw [HW.out]; exact HE.out
    rw [HEs] at i1 e0 e1
    clear HEs
    gi_wp2_with fail
    refine ⟨by simp, .inl ⟨_, _, rfl, run_takeDeferred (hK' _ _), ?_⟩⟩
    refine ⟨spV (endsI b s), ?_, rfl, ((HB.out.setCell (by simp; omega) _).setCell (by simp; omega) _).trans (belowK_b (w := w) (Nat.le_refl _) _ D _ _ (by omega) (hK' _ _) rfl rfl)⟩
    simp [spV, results, Try.results83, go_sem, (HP.out _ _).1, (HP.out _ _).2]
  case stop =>
    intro D c pre W' _ _ h _
    exact h.elim
  case body =>
    clear qs
    rintro l pre x a' W' hl hrc ⟨⟨i1, i2⟩, i3, i4⟩ ⟨Bx, hBx, xB, rfl⟩ hp
    have e0 := Joins.cell_of_block i1 0
    have e1 := Joins.cell_of_block i1 1
    have es := Joins.cell_of_block i2 0
    have x0 := Joins.cell_of_block xB 0
    have x1 := Joins.cell_of_block xB 1
    have x2 := Joins.cell_of_block xB 2
    have v1 := size_of_block i1
    have v2 := size_of_block i2
    have zx := size_of_block xB
    have hst := Lib.hid (endsF_step b.n s pre x)
    have hs3 : s = 0 ∨ s = 1 ∨ s = 2 := by omega
    unfold btV k3V
    rcases hs3 with rfl | rfl | rfl
    all_goals
      gi_wp2_with fail
      refine wpIn_region_grown_tail (r := some l) 13 (by kernel_rfl) (by kernel_rfl) fun hcg => ?_
      simp only [List.take_succ_cons, List.take_zero, List.drop_succ_cons, List.drop_zero]
      repeat (go_big_quiet_step (fail))
      refine wpQuiet_nil ?_
      intro _ hw'
      obtain ⟨g, hw''⟩ := hw'
      subst hw''
      have j1 := (g.b.block _ v1).trans i1
      have j2 := (g.b.block _ v2).trans i2
      have j3 := (g.b.block _ (size_of_block i3)).trans i3
      have j4 := Lib.hid (below_then i4 g.b)
      have f0 := Joins.unfrozen_of_block j1 0
      have f1 := Joins.unfrozen_of_block j1 1
      have g0 := Joins.cell_of_block j1 0
      have g1 := Joins.cell_of_block j1 1
      have zj := size_of_block j1
      have hgb := Lib.hid g.b
      have hm0 := below_then i4 g.b
      have hmz := hm0.size
      clear hcg e0 e1 es x0 x1 x2 hm0
      gi_wp2_with fail
      refine ⟨keeps_setCell (keeps_setCell (keeps_of_below hgb.out) _ _) _ _, ((Kp.of_below hgb.out i4.size).setCell (by simp; omega) (by have := QS.out; simp; omega) _).setCell (by simp; omega) (by have := QS.out; simp; omega) _, ⟨?_, ?_⟩, ?_, ?_⟩
      · rw [hst.out]
        exact Joins.block_setCell (i := 1) (Joins.block_setCell (i := 0) j1 _) _
      · exact (block_setCell_lt (by omega)).trans ((block_setCell_lt (by omega)).trans j2)
      · exact (block_setCell_lt (by omega)).trans ((block_setCell_lt (by omega)).trans j3)
      · exact (j4.out.setCell (by simp; omega) _).setCell (by simp; omega) _
end Go.Proofs.Ytaaeipjnhjgjdaa
/- Batches together, by package sample. -/
namespace Go.Proofs.Ytaaeipjnhjgjdaa
open Go Go.RowKit Go.Shelf

theorem sum_los (l : List Bt) (s : Int) : sumL Sp.lo (l.map fun b => endsI b s) = losI l s := by
  unfold sumL losI losP
  rw [List.map_map, List.take_length]
  rfl
theorem sum_his (l : List Bt) (s : Int) : sumL Sp.hi (l.map fun b => endsI b s) = hisI l s := by
  unfold sumL hisI hisP
  rw [List.map_map, List.take_length]
  rfl
set_option maxHeartbeats 4000000 in
set_option maxRecDepth 100000 in
theorem Together_c (l : List Bt) (s : Int) (p : Sp) (v : Value) (w : World) (hv : Bts w w.heap.size v l) :
    Calls Try.prog 65 #[v, .int .i64 s, spV p] w fun e w' => ∃ u, e = .returned (.tuple #[u, .int .i64 (togetherE l s p)]) ∧ Sps w' w'.heap.size u (togetherL l s p) ∧ Below w.heap.size w w' := by
  obtain ⟨i0, hi, hz0, hz1, hz2⟩ := info_parts Try.infoSp
  have HI := Lib.hid hi
  have HI0 := Lib.hid hz0
  have HI1 := Lib.hid hz1
  have HI2 := Lib.hid hz2
  clear hi hz0 hz1 hz2
  obtain ⟨A, cap, rfl, hcap, hn, hat⟩ := hv.open_
  have H := Lib.hid hat
  clear hat hv
  have hp0 := heap_alloc_new w (.cells #[.int .i64 p.lo, .int .i64 p.hi] 31)
  have hB0 := below_alloc w (.cells #[.int .i64 p.lo, .int .i64 p.hi] 31)
  unfold spV
  by_cases h12 : 12 < l.length
  · have hd : decide ((l.length : Int) > 12) = true := decide_eq_true (by omega)
    have hE : Hid (togetherE l s p = 2) := by show togetherE l s p = 2; unfold togetherE; rw [if_pos h12]
    clear hp0
    go_enter Try.func65, Try.ntmps65
    go_wp2_with fail
    refine bodyPost_ret (v := .tuple #[.slice none 0 0, .int .i64 2]) ?_ rfl ⟨_, by rw [hE.out], by rw [show togetherL l s p = [] by unfold togetherL; rw [hE.out]; rfl]; exact Sl.nil_, hB0⟩
    simp [results, Try.results65, go_sem]
  · have hd : decide ((l.length : Int) > 12) = false := decide_eq_false (by omega)
    go_enter Try.func65, Try.ntmps65
    go_wp2_with fail
    generalize w.alloc (.cells #[.int .i64 p.lo, .int .i64 p.hi] 31) = W at hp0 hB0 ⊢
    have hWs := hB0.size
    have zp := size_of_block hp0
    go_loopw [19] (fun i wr => ∃ j : Nat, j ≤ l.length ∧ i = .int .i64 j ∧ Hid ((l.take j).find? badB = none) ∧ Below W.heap.size W wr) (fun i _ => l.length - (intOf i).toNat)
    case atStart => exact ⟨0, by omega, rfl, rfl, Below.refl _ _⟩
    case round =>
      obtain ⟨j, hj, rfl, hq, hb⟩ := hrel
      have hws := hb.size
      by_cases hlt : j < l.length
      · obtain ⟨b1, off, x, rfl, hb1, hx0, c⟩ := H.out j hlt
        have hk : ∀ o, wr.cell? ⟨b1, o, none⟩ = w.cell? ⟨b1, o, none⟩ := fun o => (hb.cell (p := ⟨b1, o, none⟩) (by simp only; omega)).trans (hB0.cell (p := ⟨b1, o, none⟩) hb1)
        simp only [← hk] at c
        obtain ⟨c0, c1, c2, c3, c4, c5, c6, c7, c8, c9⟩ := c
        have hz1 : b1 < wr.heap.size := by omega
        have hx := Lib.hid hx0
        clear hx0 hk
        go_wp2_with fail
        refine (Check_c x _).mono ?_
        rintro e w1 ⟨rfl, hb2⟩
        have hB := below_grown hb hws (below_then (below_alloc wr (.cells #[.int .i64 x.n, .int .i64 x.s.a, .int .i64 x.s.b, .int .i64 x.s.c, .int .i64 x.k0.lo, .int .i64 x.k0.hi, .int .i64 x.k1.lo, .int .i64 x.k1.hi, .int .i64 x.k2.lo, .int .i64 x.k2.hi] 34)) hb2)
        clear c0 c1 c2 c3 c4 c5 c6 c7 c8 c9 hb2
        by_cases hc : checkB x = 0
        · have hd2 : (checkB x != 0) = false := by simpa using hc
          have hno : Hid ((l.take (j + 1)).find? badB = none) := by
            show List.find? badB (l.take (j + 1)) = none
            rw [List.take_add_one, hx.out]; exact find_no hq.out (by simpa [badB] using hc)
          go_wp2_with fail
          go_roundw
          case rel => exact ⟨j + 1, by omega, by go_num, hno, hB⟩
          case measure => simp [intOf]; omega
        · have hd2 : (checkB x != 0) = true := by simpa using hc
          have hf : Hid (l.find? badB = some x) := by
            show List.find? badB l = some x
            refine find_first (l := l.take j) ?_ hq.out (by simpa [badB] using hc)
            have := List.take_prefix (j + 1) l
            rw [List.take_add_one, hx.out] at this; exact this
          have hE : Hid (togetherE l s p = checkB x) := by show togetherE l s p = checkB x; unfold togetherE; rw [if_neg h12, first_bad hf.out, if_pos hc]
          have hne : Hid (togetherL l s p = []) := by show togetherL l s p = []; unfold togetherL; rw [hE.out, if_neg hc]
          go_wp2_with fail
          refine bodyPost_ret (v := .tuple #[.slice none 0 0, .int .i64 (checkB x)]) ?_ rfl ⟨_, by rw [hE.out], by rw [hne.out]; exact Sl.nil_, hB0.trans (hB.mono (by omega))⟩
          simp [results, Try.results65, go_sem]
      · obtain rfl : j = l.length := by omega
        rw [List.take_length] at hq
        obtain ⟨hf0, hall⟩ := first_ok hq.out
        have hF0 := Lib.hid hf0
        have HALL := Lib.hid hall
        clear hf0 hall hq
        replace hp0 := (hb.block _ zp).trans hp0
        have BB := hB0.trans (hb.mono hWs)
        clear hb hws hB0 hWs zp
        rcases Bool.eq_false_or_eq_true (inI s 0 2) with hs | hs
        · have hs2 : 0 ≤ s ∧ s ≤ 2 := by simpa [inI] using hs
          have hS := Lib.hid hs
          clear hs
          have e0 := Joins.cell_of_block hp0 0
          have e1 := Joins.cell_of_block hp0 1
          have zp := size_of_block hp0
          go_wp2_with fail
          refine (sortP_c s _).mono ?_
          rintro e w1 ⟨rfl, rfl⟩
          rw [hS.out]
          go_wp2_with fail
          have hq := spanP_c p wr
          unfold spV at hq
          refine hq.mono ?_
          clear hq
          rintro e w1 ⟨rfl, hb1⟩
          replace hp0 := (hb1.block _ zp).trans hp0
          replace BB := below_then BB hb1
          clear hb1 e0 e1 zp
          by_cases hpp : p.lo ≤ p.hi
          · have hdp : decide (p.lo ≤ p.hi) = true := decide_eq_true hpp
            rw [hdp]
            clear hdp
            go_wp2_with fail
            obtain ⟨wo, rfl⟩ : ∃ wo : World, wo = w1 := ⟨_, rfl⟩
            go_loopw [11, 39] (fun out i wr => ∃ j : Nat, j ≤ l.length ∧ i = .int .i64 j ∧ wr.ownsRow wo.heap.size 31 2 out j ((l.take j).flatMap fun b => spC (endsI b s)) ∧ Below wo.heap.size wo wr) (fun _ i _ => l.length - (intOf i).toNat)
            case atStart => exact ⟨0, by omega, rfl, World.ownsRow_nil _ _ _ _, Below.refl _ _⟩
            case round =>
              obtain ⟨j, hj, rfl, hown, hb⟩ := hrel
              have hws := hb.size
              have hww := BB.size
              by_cases hlt : j < l.length
              · obtain ⟨b1, off, x, rfl, hb1, hx0, c⟩ := H.out j hlt
                have hk : ∀ o, wr.cell? ⟨b1, o, none⟩ = w.cell? ⟨b1, o, none⟩ := fun o => (hb.cell (p := ⟨b1, o, none⟩) (by simp only; omega)).trans (BB.cell (p := ⟨b1, o, none⟩) hb1)
                simp only [← hk] at c
                obtain ⟨c0, c1, c2, c3, c4, c5, c6, c7, c8, c9⟩ := c
                have hz2 : b1 < wr.heap.size := by omega
                have hck := HALL.out x (List.mem_of_getElem? hx0)
                have heb := ends_bound hck s
                have htk : Hid ((l.take (j + 1)).flatMap (fun b => spC (endsI b s)) = (l.take j).flatMap (fun b => spC (endsI b s)) ++ spC (endsI x s)) := by
                  show (l.take (j + 1)).flatMap _ = _
                  rw [List.take_add_one, hx0]; simp
                clear hx0 hk
                go_wp2_with fail
                refine (ends_c x s _ hck hs2.1 hs2.2).mono ?_
                rintro e w2 ⟨rfl, hb2⟩
                have hB := below_then (below_alloc wr (.cells #[.int .i64 x.n, .int .i64 x.s.a, .int .i64 x.s.b, .int .i64 x.s.c, .int .i64 x.k0.lo, .int .i64 x.k0.hi, .int .i64 x.k1.lo, .int .i64 x.k1.hi, .int .i64 x.k2.lo, .int .i64 x.k2.hi] 34)) hb2
                have hown2 := own_later hown hB
                have hB2 := below_grown hb hws hB
                have hs3 := hB2.size
                clear c0 c1 c2 c3 c4 c5 c6 c7 c8 c9 hown hB hb2
                unfold spV
                go_wp2_with (at_builtin; refine wpList_append_own _ rfl _ _ 99 rfl wo.heap.size 31 i0 (.agg #[.int .i64 0, .int .i64 0]) 2 16 Try.underlying99 HI.out HI0.out HI1.out HI2.out rfl (by decide) _ _ _ rfl (hown2.alloc _) ⟨w2.heap.size, 0, none⟩ 1 1 [.int .i64 (endsI x s).lo, .int .i64 (endsI x s).hi] rfl rfl ?c1 ?c2 ?c3 ?c4 ?c5 ?_)
                case c1 => have := cells_new w2 [.int .i64 (endsI x s).lo, .int .i64 (endsI x s).hi] 31; simpa using this
                case c2 => intro u hu; simp at hu; rcases hu with rfl | rfl <;> rfl
                case c3 => unfold maxLen; omega
                case c4 => omega
                case c5 => simp; omega
                intro v' w3 hown3 hgrow _
                have hBn := below_append hB2 hs3 hown2 hgrow
                clear hgrow
                go_wp2
                go_roundw
                case rel => exact ⟨j + 1, by omega, by go_num, by rw [htk.out]; exact hown3, hBn⟩
                case measure => simp [intOf]; omega
              · obtain rfl : j = l.length := by omega
                rw [List.take_length] at hown
                have hout := own_map hown (by omega)
                obtain ⟨A4, cap4, rfl⟩ := own_form hown
                replace hp0 := (hb.block _ (size_of_block hp0)).trans hp0
                replace BB := BB.trans (hb.mono hww)
                have e0 := Joins.cell_of_block hp0 0
                have e1 := Joins.cell_of_block hp0 1
                have zp := size_of_block hp0
                have SC := share_c (l.map fun b => endsI b s) p (.slice A4 l.length cap4) wr hout (fun x hx => by obtain ⟨b, hb, rfl⟩ := List.mem_map.1 hx; exact ends_bound (HALL.out b hb) s) (by rw [List.length_map]; omega) hpp
                have hE : togetherE l s p = if hisI l s < p.lo ∨ p.hi < losI l s then 9 else 0 := by unfold togetherE; rw [if_neg h12, if_neg (by rw [hF0.out]; simp), if_neg (by rw [hS.out]; simp; omega)]
                have hL : togetherL l s p = if hisI l s < p.lo ∨ p.hi < losI l s then [] else (l.map fun b => endsI b s).map (nearS p (losI l s) (hisI l s)) := by
                  unfold togetherL
                  rw [hE, List.map_map]
                  by_cases hc : hisI l s < p.lo ∨ p.hi < losI l s
                  · rw [if_pos hc, if_pos hc]; rfl
                  · rw [if_neg hc, if_neg hc]; rfl
                rw [sum_los, sum_his, ← hE, ← hL] at SC
                unfold spV at SC
                clear hE hL hout hown
                go_wp2_with fail
                refine SC.mono ?_
                clear SC
                rintro e w9 ⟨u, rfl, hu, hb9⟩
                obtain ⟨A5, cap5, rfl, _⟩ := hu.open_
                have HU := Lib.hid hu
                clear hu
                go_wp2_with fail
                refine bodyPost_ret (v := .tuple #[.slice A5 (togetherL l s p).length cap5, .int .i64 (togetherE l s p)]) ?_ rfl ⟨_, rfl, HU.out, below_then BB hb9⟩
                simp [results, Try.results65, go_sem]
          · have hdp : decide (p.lo ≤ p.hi) = false := decide_eq_false hpp
            have hE : Hid (togetherE l s p = 1) := by show togetherE l s p = 1; unfold togetherE; rw [if_neg h12, if_neg (by rw [hF0.out]; simp), if_pos (Or.inr (by omega))]
            have hne : Hid (togetherL l s p = []) := by show togetherL l s p = []; unfold togetherL; rw [hE.out]; rfl
            rw [hdp]
            clear hdp
            go_wp2_with fail
            refine bodyPost_ret (v := .tuple #[.slice none 0 0, .int .i64 1]) ?_ rfl ⟨_, by rw [hE.out], by rw [hne.out]; exact Sl.nil_, BB⟩
            simp [results, Try.results65, go_sem]
        · have hE : Hid (togetherE l s p = 1) := by show togetherE l s p = 1; unfold togetherE; rw [if_neg h12, if_neg (by rw [hF0.out]; simp), if_pos (Or.inl hs)]
          have hne : Hid (togetherL l s p = []) := by show togetherL l s p = []; unfold togetherL; rw [hE.out]; rfl
          have hS := Lib.hid hs
          clear hs
          go_wp2_with fail
          refine (sortP_c s _).mono ?_
          rintro e w1 ⟨rfl, rfl⟩
          rw [hS.out]
          go_wp2_with fail
          refine bodyPost_ret (v := .tuple #[.slice none 0 0, .int .i64 1]) ?_ rfl ⟨_, by rw [hE.out], by rw [hne.out]; exact Sl.nil_, BB⟩
          simp [results, Try.results65, go_sem]
end Go.Proofs.Ytaaeipjnhjgjdaa
