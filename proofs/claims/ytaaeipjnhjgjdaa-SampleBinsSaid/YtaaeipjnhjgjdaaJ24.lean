/- Texts joined: 3ProgN. -/
import Derived.RangeFuncBox
import Derived.Test.YtaaeipjnhjgjdaaJ21
/- All wholes as a slice; Ends: by package sample. -/
namespace Go.Proofs.Ytaaeipjnhjgjdaa
open Go Go.RowKit Go.Shelf
attribute [local go_sem] Oper.semAt_some

/-- An append in a round leaves alone what lay below, and the cells of all types but the slice's and its box's. -/
theorem kp_appended {W w1 : World} {n₀ n₁ Bx B : Nat} {t e : TypeId} {size : Nat} {v v' : Value} {k m : Nat} {xs ys : List Value} {tmp : Obj} {U : List TypeId}
    (hv : Go.Boxed W Bx t v) (hte : t ≠ e) (hrow : W.ownsRow n₁ e size v k xs) (hn₁ : n₁ ≤ W.heap.size) (hB : n₁ ≤ Bx)
    (hown' : w1.ownsRow n₁ e size v' m ys) (hgrow : (W.alloc tmp).grownBy w1 v.ownBlock) (hn : n₀ ≤ n₁) (ht : t ∉ U) (he : e ∉ U) : Kp n₀ B U W (w1.setCell ⟨Bx, 0, none⟩ v') := by
  obtain ⟨_, _, _, _, hb⟩ := Go.Boxed.appended hv hte hrow hn₁ hB hown' hgrow
  refine ⟨hb.mono hn, fun j cs ty fr hj hx hu => ?_⟩
  have hjl := (Array.getElem?_eq_some_iff.1 hx).1
  have h1 : (W.alloc tmp).heap[j]? = some (.cells cs ty fr) := (Below.heap_alloc W tmp j hjl).trans hx
  have h2 : w1.heap[j]? = some (.cells cs ty fr) := (hgrow.block j (Array.getElem?_eq_some_iff.1 h1).1 (fun e' => by
    rcases hrow.2 with ⟨rfl, _⟩ | ⟨g, cap, cur, rfl, _, hg, _⟩
    · simp [Value.ownBlock] at e'
    · obtain rfl : g = j := by simpa [Value.ownBlock] using e'.symm
      rw [hg] at hx; cases hx; exact he hu)).trans h1
  refine (Below.heap_setCell w1 _ v' j (fun e' => ?_)).trans h2
  simp only at e'
  subst e'
  have : W.heap[j]? = some (.cells #[v] t (0, 0)) := hv
  rw [this] at hx; cases hx; exact ht hu
set_option maxRecDepth 100000 in
set_option maxHeartbeats 4000000 in
theorem append_c (things : Value) (n₀ B : Nat) (xs : List K3) (w : World) (hG : Gives Try.prog n₀ B wholesU things encK xs w) (hn : n₀ ≤ w.heap.size) (hlen : xs.length ≤ 5000) :
    Calls Try.prog 135 #[.slice none 0 0, things] w fun e w' => ∃ v, e = .returned v ∧ w'.ownsRow w.heap.size 23 3 v xs.length (xs.flatMap k3C) ∧ Below w.heap.size w w' := by
  obtain ⟨i0, hi, hz0, hz1, hz2⟩ := info_parts Try.infoK3
  have HI := Lib.hid hi
  have HI0 := Lib.hid hz0
  have HI1 := Lib.hid hz1
  have HI2 := Lib.hid hz2
  clear hi hz0 hz1 hz2
  obtain ⟨gf, lb, rfl, hGo⟩ : ∃ gf lb, things = .func (.func gf) #[] lb ∧ True := by obtain ⟨gf, lb, h, _⟩ := hG; exact ⟨gf, lb, h, trivial⟩
  clear hGo
  (refine (callsIn_wide (n := 9)).1 (callsIn_of_wp_marks Try.func135 rfl trivial ?_ rfl); simp only [Try.ntmps135, List.size_toArray, List.length_cons, List.length_nil, Nat.reduceAdd, Nat.reduceSub, Array.replicate_succ, Array.replicate_zero, List.push_toArray, List.append_toArray, List.nil_append, List.cons_append])
  gi_wp2_with fail
  have b1 : Go.Boxed (w.alloc (.cells #[.slice none 0 0] 35)) w.heap.size 35 (.slice none 0 0) := Go.Boxed.new w _ _
  have a1 := below_alloc w (.cells #[.slice none 0 0] 35)
  have hs1 : (w.alloc (.cells #[.slice none 0 0] 35)).heap.size = w.heap.size + 1 := by simp
  generalize w.alloc (.cells #[.slice none 0 0] 35) = W0 at b1 a1 hs1 ⊢
  have hs0 := a1.size
  have QS := Lib.hid hs1
  clear hs1
  refine wpIn_over (hG.later a1) rfl (fun _ => rfl) (by omega)
    (fun pre W' => (∃ v, Go.Boxed W' w.heap.size 35 v ∧ W'.ownsRow w.heap.size 23 3 v pre.length (pre.flatMap k3C) ∧ True) ∧ Below w.heap.size w W')
    (fun _ _ _ => False)
    ((Own.from (holdsRow_own _ _ _ _ _ _ _ (fun _ _ => True)) _).and (ownFrom_below (Nat.le_refl _) (by omega)))
    (fun _ _ _ _ _ hs _ _ => hs) ⟨⟨_, b1, World.ownsRow_nil _ _ _ _, trivial⟩, a1⟩
    (fun x a' W' => ∃ Bx, w.heap.size + 1 ≤ Bx ∧ W'.heap[Bx]? = some (.cells #[.int .i64 x.a, .int .i64 x.b, .int .i64 x.c] 23) ∧ a' = { tmps := #[.slice none 0 0, .func (.func gf) #[] lb, .pointer (some ⟨w.heap.size, 0, none⟩), undef, .slice none 0 0, .pointer (some ⟨Bx, 0, none⟩), .func (.func gf) #[] lb, k3V x, undef, undef, undef, undef, undef], defers := [] })
    (fun x a' s' X Y row hs hg hrow => by
      obtain ⟨Bx, h1, h2, h3⟩ := hs
      exact ⟨Bx, h1, own_cells (β := Unit) W0.heap.size Bx (fun _ => .cells #[.int .i64 x.a, .int .i64 x.b, .int .i64 x.c] 23) (fun _ => rfl) s' X Y row h2 hg hrow, h3⟩) ?assign ?body ?done ?stop
  case assign =>
    rintro l pre x W' K hl ⟨⟨v, i1, i2, _⟩, i4⟩ hp hK
    unfold encK
    gi_wp2
    have ha := below_alloc W' (.cells #[.int .i64 x.a, .int .i64 x.b, .int .i64 x.c] 23)
    have hz := i1.lt
    have hsz := i4.size
    refine hK _ _ (keeps_of_below ha) (Kp.of_below ha (by omega)) ⟨⟨v, i1.alloc _, own_later i2 ha, trivial⟩, below_then i4 ha⟩ ⟨W'.heap.size, by omega, heap_alloc_new _ _, rfl⟩
  case done =>
    rintro D W' hD ⟨⟨v, i1, i2, _⟩, i4⟩ hK
    have hc := i1.cell
    gi_wp2_with fail
    refine ⟨by simp, .inl ⟨_, _, rfl, run_takeDeferred hK, ?_⟩⟩
    refine ⟨_, results_tmp rfl _ _ _, _, rfl, ownsRow_putObj i2 _ hK rfl, i4.trans (belowK_b (w := w) (Nat.le_refl _) _ D _ _ (by omega) hK rfl rfl)⟩
  case stop =>
    intro D c pre W' _ _ h _
    exact h.elim
  case body =>
    rintro l pre x a' W' hl hrc ⟨⟨v, i1, i2, _⟩, i4⟩ ⟨Bx, hBx, xB, rfl⟩ hp
    have x0 := Joins.cell_of_block xB 0
    have x1 := Joins.cell_of_block xB 1
    have x2 := Joins.cell_of_block xB 2
    have hc := i1.cell
    have hz := i1.lt
    have hzx := size_of_block xB
    have hpl := Lib.hid (by have := hp.length_le; simp only [List.length_append, List.length_cons, List.length_nil] at this; omega : pre.length + 1 ≤ 5000)
    have hw' := i4.size
    unfold k3V
    gi_wp2_with (gi_at_builtin; refine wpListIn_append_own _ rfl _ _ 35 rfl w.heap.size 23 i0 (.agg #[.int .i64 0, .int .i64 0, .int .i64 0]) 3 24 Try.underlying35 HI.out HI0.out HI1.out HI2.out rfl (by decide) _ _ _ rfl (own_later i2 (below_alloc _ _)) ⟨W'.heap.size, 0, none⟩ 1 1 [.int .i64 x.a, .int .i64 x.b, .int .i64 x.c] rfl rfl ?c1 ?c2 ?c3 ?c4 ?c5 ?_)
    case c1 => have := cells_new W' [.int .i64 x.a, .int .i64 x.b, .int .i64 x.c] 23; simpa using this
    case c2 => intro u hu; simp at hu; rcases hu with rfl | rfl | rfl <;> rfl
    case c3 => have := hpl.out; unfold maxLen; omega
    case c4 => have := hpl.out; omega
    case c5 => simp; omega
    intro v' w1 hown' hgrow _
    obtain ⟨g', cap', rfl⟩ := ownsRow_succ hown'
    obtain ⟨hv1, hv2, hr2, hk2, hb2⟩ := Go.Boxed.appended i1 (by decide) i2 hw' (Nat.le_refl _) hown' hgrow
    have hkp := Lib.hid (kp_appended (n₀ := n₀) (B := B) (U := wholesU) i1 (by decide) i2 hw' (Nat.le_refl _) hown' hgrow hn (by decide) (by decide))
    have hc1 := hv1.cell
    have hf1 := hv1.frozen
    have HK2 := Lib.hid hk2
    have HB2 := Lib.hid hb2
    have HR2 := Lib.hid hr2
    clear hk2 hb2 hgrow hown' hr2
    gi_wp2_with fail
    refine ⟨HK2.out.from _, hkp.out, ⟨_, hv2, ?_, trivial⟩, i4.trans HB2.out⟩
    rw [List.length_append, List.flatMap_append]
    simpa [k3C] using HR2.out
theorem collect_c (things : Value) (n₀ B : Nat) (xs : List K3) (w : World) (hG : Gives Try.prog n₀ B wholesU things encK xs w) (hn : n₀ ≤ w.heap.size) (hlen : xs.length ≤ 5000) :
    Calls Try.prog 79 #[things] w fun e w' => ∃ v, e = .returned v ∧ K3s w' w'.heap.size v xs ∧ Below w.heap.size w w' := by
  go_enter Try.func79, Try.ntmps79
  go_wp2_with fail
  refine (append_c things n₀ B xs w hG hn hlen).mono ?_
  rintro e w1 ⟨v, rfl, hv, hb1⟩
  go_wp2_with fail
  go_ret
  exact ⟨v, rfl, Sl.of_own k3C_len hv (by omega), hb1⟩
theorem wholes_len {b : Bt} (h : rightB b = true) : (wholesL b).length ≤ 5000 := by
  have hn := right_n h
  unfold wholesL
  refine Nat.le_trans (List.length_filter_le _ _) ?_
  unfold triples rowW
  rw [List.length_flatMap]
  have : ∀ (n : Nat) (f : Nat → Nat), (∀ i, f i ≤ 51) → ((List.range n).map f).sum ≤ 51 * n := fun n f hf => by
    induction n with
    | zero => simp
    | succ n ih => rw [List.range_succ, List.map_append, List.sum_append]; simp only [List.map_cons, List.map_nil, List.sum_cons, List.sum_nil]; have := hf n; omega
  refine Nat.le_trans (this _ _ fun i => ?_) (show 51 * (b.n.toNat + 1) ≤ 5000 by omega)
  rw [List.length_map, List.length_range]; omega
theorem Wholes_c (b : Bt) (w : World) : Calls Try.prog 25 #[btV b] w fun e w' => ∃ u, e = .returned (.tuple #[u, .int .i64 (checkB b)]) ∧ K3s w' w'.heap.size u (if checkB b = 0 then wholesL b else []) ∧ Below w.heap.size w w' := by
  unfold btV
  by_cases h : checkB b = 0
  · have hd : (checkB b != 0) = false := by simpa using h
    have hr := (check_ok h).1
    have HW := Lib.hid (wholesA_eq hr)
    have HR := Lib.hid hr
    rw [if_pos h]
    have HH := Lib.hid h
    clear h hr
    go_enter Try.func25, Try.ntmps25
    go_wp2_with fail
    refine (Check_c b _).mono ?_
    rintro e w1 ⟨rfl, hb1⟩
    have y0 := (hb1.block w.heap.size (by simp)).trans (heap_alloc_new w (.cells #[.int .i64 b.n, .int .i64 b.s.a, .int .i64 b.s.b, .int .i64 b.s.c, .int .i64 b.k0.lo, .int .i64 b.k0.hi, .int .i64 b.k1.lo, .int .i64 b.k1.hi, .int .i64 b.k2.lo, .int .i64 b.k2.hi] 34))
    have hz := size_of_block y0
    have hB1 := below_then (below_alloc w (.cells #[.int .i64 b.n, .int .i64 b.s.a, .int .i64 b.s.b, .int .i64 b.s.c, .int .i64 b.k0.lo, .int .i64 b.k0.hi, .int .i64 b.k1.lo, .int .i64 b.k1.hi, .int .i64 b.k2.lo, .int .i64 b.k2.hi] 34)) hb1
    obtain ⟨hc1, hf1⟩ := bcell hb1
    go_wp2_with fail
    refine (wholesP_c b _).mono ?_
    rintro e w2 ⟨rfl, rfl⟩
    have n4 := heap_alloc_new w1 (.cells (btC b) 34)
    have a4 := below_alloc w1 (.cells (btC b) 34)
    clear hc1 hf1 hb1
    generalize w1.alloc (.cells (btC b) 34) = W4 at n4 a4 ⊢
    go_wp2_with fail
    refine (collect_c _ W4.heap.size 0 (wholesA b) W4 (wholes_g (fun _ h => h) (size_of_block n4) HR.out (by omega) (Nat.le_refl _) n4) (Nat.le_refl _) (by rw [HW.out]; exact wholes_len HR.out)).mono ?_
    rintro e w3 ⟨v, rfl, hv, hb3⟩
    rw [HW.out] at hv
    go_wp2_with fail
    go_ret2
    exact ⟨v, by rw [HH.out]; rfl, hv, below_then hB1 (below_then a4 hb3)⟩
  · have hd : (checkB b != 0) = true := by simpa using h
    rw [if_neg h]
    clear h
    go_enter Try.func25, Try.ntmps25
    go_wp2_with fail
    refine (Check_c b _).mono ?_
    rintro e w1 ⟨rfl, hb1⟩
    go_wp2_with fail
    go_ret2
    exact ⟨_, rfl, Sl.nil_, below_then (below_alloc _ _) hb1⟩
theorem Ends_c (b : Bt) (s : Int) (w : World) :
    Calls Try.prog 27 #[btV b, .int .i64 s] w fun e w' => e = .returned (.tuple #[spV (endsR b s).1, .int .i64 (endsR b s).2]) ∧ Below w.heap.size w w' := by
  obtain ⟨q0, q1, qs, qb⟩ := two_new' w (.cells (btC b) 34) (.cells #[.int .i64 0, .int .i64 0] 31)
  unfold btC at q0 q1 qs qb
  unfold btV
  by_cases h : kindI b s = 0
  · have hd : (kindI b s != 0) = false := by simpa using h
    obtain ⟨k1, k2, k3⟩ := kind_ok h
    have HR := Lib.hid (show endsR b s = (endsI b s, 0) by unfold endsR; rw [if_pos h])
    have K1 := Lib.hid k1
    clear h k1
    go_enter Try.func27, Try.ntmps27
    go_wp2_with fail
    have QS := Lib.hid qs
    clear qs
    generalize (w.alloc _).alloc _ = W1 at q0 q1 QS qb ⊢
    refine (checkSort_c b s _).mono ?_
    rintro e w1 ⟨rfl, hb1⟩
    have y0 := (hb1.block _ (size_of_block q0)).trans q0
    have y1 := (hb1.block _ (size_of_block q1)).trans q1
    have hB1 := below_then qb hb1
    have d0 := Joins.cell_of_block y0 0
    have d1 := Joins.cell_of_block y0 1
    have d2 := Joins.cell_of_block y0 2
    have d3 := Joins.cell_of_block y0 3
    have d4 := Joins.cell_of_block y0 4
    have d5 := Joins.cell_of_block y0 5
    have d6 := Joins.cell_of_block y0 6
    have d7 := Joins.cell_of_block y0 7
    have d8 := Joins.cell_of_block y0 8
    have d9 := Joins.cell_of_block y0 9
    have hz := size_of_block y0
    clear hb1 q0 q1 qb
    go_wp2_with fail
    refine (ends_c b s _ K1.out k2 k3).mono ?_
    rintro e w2 ⟨rfl, hb2⟩
    have f := (hb2.block _ (size_of_block y1)).trans y1
    have hBu := below_then hB1 hb2
    have g0 := Joins.cell_of_block f 0
    have g1 := Joins.cell_of_block f 1
    have f0 := Joins.unfrozen_of_block f 0
    have f1 := Joins.unfrozen_of_block f 1
    have HP := Lib.hid (put2 (.int .i64 (endsI b s).lo) (.int .i64 (endsI b s).hi) f)
    have hzf := size_of_block f
    clear d0 d1 d2 d3 d4 d5 d6 d7 d8 d9 y0 y1 hb2 hz
    unfold spV
    go_wp2_with fail
    refine bodyPost_ret (v := .tuple #[spV (endsI b s), .int .i64 0]) ?_ rfl ⟨by rw [HR.out], (hBu.setCell (by simp) _).setCell (by simp) _⟩
    simp [spV, results, Try.results27, go_sem, HP.out.1, HP.out.2]
  · have hd : (kindI b s != 0) = true := by simpa using h
    have HR := Lib.hid (show endsR b s = (⟨0, 0⟩, kindI b s) by unfold endsR; rw [if_neg h])
    clear h
    go_enter Try.func27, Try.ntmps27
    go_wp2_with fail
    have QS := Lib.hid qs
    clear qs
    generalize (w.alloc _).alloc _ = W1 at q0 q1 QS qb ⊢
    refine (checkSort_c b s _).mono ?_
    rintro e w1 ⟨rfl, hb1⟩
    have f := (hb1.block _ (size_of_block q1)).trans q1
    have hBu := below_then qb hb1
    have g0 := Joins.cell_of_block f 0
    have g1 := Joins.cell_of_block f 1
    have f0 := Joins.unfrozen_of_block f 0
    have f1 := Joins.unfrozen_of_block f 1
    have HP := Lib.hid (put2 (.int .i64 0) (.int .i64 0) f)
    have hzf := size_of_block f
    clear hb1 q0 q1 qb
    go_wp2_with fail
    refine bodyPost_ret (v := .tuple #[spV ⟨0, 0⟩, .int .i64 (kindI b s)]) ?_ rfl ⟨by rw [HR.out], (hBu.setCell (by simp) _).setCell (by simp) _⟩
    simp [spV, results, Try.results27, go_sem, HP.out.1, HP.out.2]
end Go.Proofs.Ytaaeipjnhjgjdaa
