/- Texts joined: 3ProgO 3ProgP 3ProgQ 3ProgR. -/
import Derived.Test.YtaaeipjnhjgjdaaJ23
import Derived.Test.YtaaeipjnhjgjdaaJ3
import Derived.Test.YtaaeipjnhjgjdaaJ24
import Derived.Test.YtaaeipjnhjgjdaaJ6
/- What is believed: weights in a map, by package sample. -/
namespace Go.Proofs.Ytaaeipjnhjgjdaa
open Go Go.RowKit Go.Shelf

theorem zero_int (w : World) : (zeroValue 3).run Try.prog w = .ok (.int .i64 0) w := by kernel_rfl
/-- A lookup in a region that draws. -/
theorem wpQuiet_lookup {ops : Array Oper} {o : Oper} {rest : List Oper} {a : Act} {w : World} {Q : Act → Prop} {r : Nat} {f : Int → Int} (m x : Operand) (n : Int)
    (hop : o.op = Op.lookup 126 m x false) (hg : o.guard = none) (hm : a.eval m = .map (some r)) (hx : a.eval x = .int .i64 n) (hf : FMap w r f)
    (h : wpQuiet Try.prog ops (fun w' => ∃ g : Gr w, w' = g.val) Q rest (a.put o.dst (.int .i64 (f n)))) : wpQuiet Try.prog ops (fun w' => ∃ g : Gr w, w' = g.val) Q (o :: rest) a := by
  refine BigFrame.wpQuiet_want (by simp [Region.wanted, hg]) fun K hK => ⟨_, fun w' hw' => ?_, hK _ h⟩
  obtain ⟨g, rfl⟩ := hw'
  have e : (execOp a.eval o).run Try.prog g.val = .ok (.value (.int .i64 (f n))) g.val := by
    simp only [execOp, hop, hm, hx, Sem.run_bind, run_lookup_f Try.underlying126 Try.underlying3 (zero_int g.val) (hf.later g.b) n, Result.andThen, Sem.run_pure]
  unfold Oper.quietAt
  rw [e]
  exact ⟨rfl, rfl⟩
theorem wpList_lookup_f {ops : Array Oper} {rest : List Oper} {o : Oper} {a : Act} {w : World} {Q : Exit → Act → World → Prop} {r : Nat} {f : Int → Int} (m x : Operand) (n : Int)
    (hop : o.op = Op.lookup 126 m x false) (hg : o.guard = none) (hm : a.eval m = .map (some r)) (hx : a.eval x = .int .i64 n) (hf : FMap w r f)
    (hK : wpList Try.prog ops Q rest (a.put o.dst (.int .i64 (f n))) w) : wpList Try.prog ops Q (o :: rest) a w := by
  refine wpList_plain hg fun K hK' => ?_
  unfold Oper.wp
  simp only [execOp, hop, hm, hx, Sem.run_bind, run_lookup_f Try.underlying126 Try.underlying3 (zero_int w) hf n, Result.andThen, Sem.run_pure]
  exact hK' _ _ hK
def belV (n : Int) (r : Nat) (all : Int) : Value := .agg #[.int .i64 0, .int .i64 n, .map (some r), .int .i64 all]
theorem weight_c (N all n : Int) (r : Nat) (f : Int → Int) (w : World) (h : FMap w r f) :
    Calls Try.prog 93 #[belV N r all, .int .i64 n] w fun e w' => e = .returned (.int .i64 (f n)) ∧ Below w.heap.size w w' := by
  have hf := h.later (below_alloc w (.cells #[.int .i64 0, .int .i64 N, .map (some r), .int .i64 all] 128))
  unfold belV
  go_enter Try.func93, Try.ntmps93
  go_wp2_with (first | (refine wpList_lookup_f _ _ n rfl rfl rfl rfl hf ?_) | fail)
  go_ret
  exact ⟨rfl, below_alloc _ _⟩
theorem weight_t {N all : Int} {r : Nat} {f : Int → Int} {w : World} (xs : List Int) (h : FMap w r f) :
    Tells Try.prog (.func (.func 93) #[belV N r all] #[]) (Value.int .i64) xs (fun x => .int .i64 (f x)) w :=
  ⟨_, _, _, rfl, enters_of Try.func93 (by kernel_rfl) rfl, fun x W _ hb => weight_c N all x r f W (h.later hb)⟩
end Go.Proofs.Ytaaeipjnhjgjdaa
/- How much a span is believed, and sums over all numbers, by package sample. -/
namespace Go.Proofs.Ytaaeipjnhjgjdaa
open Go Go.RowKit Go.Shelf
attribute [local go_sem] Rel RelAt RelUpon

set_option maxRecDepth 100000 in
theorem within3_c (N all : Int) (r : Nat) (f : Int → Int) (q : Sp) (w : World) (h : FMap w r f) (hN : 0 ≤ N) (hN2 : N ≤ 50)
    (hb : ∀ pre, pre <+: numsL (max q.lo 0) (min q.hi N) → -4611686018427387904 ≤ sumL f pre ∧ sumL f pre ≤ 4611686018427387904) :
    Calls Try.prog 96 #[belV N r all, spV q] w fun e w' => e = .returned (rtV ⟨sumL f (numsL (max q.lo 0) (min q.hi N)), all⟩) ∧ Below w.heap.size w w' := by
  obtain ⟨q0, q1, q2, qs, qb⟩ := three_new w (.cells #[.int .i64 0, .int .i64 N, .map (some r), .int .i64 all] 128) (.cells #[.int .i64 (max q.lo 0), .int .i64 (min q.hi N)] 31) (.cells #[.int .i64 0, .int .i64 0] 138)
  unfold belV spV
  go_enter Try.func96, Try.ntmps96
  go_wp2_with fail
  have QS := Lib.hid qs
  clear qs
  generalize ((w.alloc _).alloc _).alloc _ = W1 at q0 q1 q2 QS qb ⊢
  have hf := h.later qb
  have s0 := Joins.cell_of_block q0 0
  have s1 := Joins.cell_of_block q0 1
  have s2 := Joins.cell_of_block q0 2
  have s3 := Joins.cell_of_block q0 3
  have p0 := Joins.cell_of_block q1 0
  have p1 := Joins.cell_of_block q1 1
  have z0 := size_of_block q0
  have z1 := size_of_block q1
  have z2 := size_of_block q2
  clear q0 q1
  refine wp_region_picked [0, 2, 3, 5, 6] [1, 4, 7] [8] (by kernel_rfl) (by kernel_rfl) (by intro c a d v w h; cases d <;> exact h) fun hcg => ?_
  simp only [pick, List.filterMap_cons, List.filterMap_nil, List.getElem?_toArray, List.getElem?_cons_succ, List.getElem?_cons_zero]
  repeat (refine wpRel_step (fun K hK => ?_); go_simp; refine hK _ ?_; clear hK K)
  refine wpRel_nil fun g => ?_
  refine ⟨rfl, ?_⟩
  go_simp
  refine (numbers_c ⟨max q.lo 0, min q.hi N⟩ _).mono ?_
  rintro e w2 ⟨rfl, rfl⟩
  have n2 := heap_alloc_new g.val (.cells #[.int .i64 (max q.lo 0), .int .i64 (min q.hi N)] 31)
  have a2 := below_alloc g.val (.cells #[.int .i64 (max q.lo 0), .int .i64 (min q.hi N)] 31)
  generalize g.val.alloc (.cells #[.int .i64 (max q.lo 0), .int .i64 (min q.hi N)] 31) = W2 at n2 a2 ⊢
  have B2 := below_then g.b a2
  refine ⟨B2, fun u hu => ?_⟩
  refine ⟨rfl, ?_⟩
  go_simp
  have B3 := below_then B2 hu
  have n3 := (hu.block _ (size_of_block n2)).trans n2
  refine (total_c _ _ u.heap.size (numsL (max q.lo 0) (min q.hi N)) f u (numbers_g (s := ⟨max q.lo 0, min q.hi N⟩) (size_of_block n3) (by simp only; omega) (by simp only; omega) n3) (Nat.le_refl _) (weight_t _ (hf.later B3)) hb).mono ?_
  rintro e w3 ⟨rfl, hb3⟩
  have B4 := below_then B3 hb3
  refine ⟨B4, fun u2 hu2 => ?_⟩
  refine ⟨rfl, ?_⟩
  go_simp
  have B5 := below_then B4 hu2
  refine ⟨B5, fun u3 hu3 => ?_⟩
  have B6 := below_then B5 hu3
  have fz := (B6.block _ z2).trans q2
  have k0 := Joins.cell_of_block fz 0
  have k1 := Joins.cell_of_block fz 1
  have f0 := Joins.unfrozen_of_block fz 0
  have f1 := Joins.unfrozen_of_block fz 1
  have HP := Lib.hid (put2 (.int .i64 (sumL f (numsL (max q.lo 0) (min q.hi N)))) (.int .i64 all) fz)
  have hz := size_of_block fz
  have hBu := below_then qb B6
  show wpList _ _ _ _ _ _
  clear hcg s0 s1 s2 s3 p0 p1 z0 z1 z2 fz
  go_wp2
  refine bodyPost_ret (v := rtV ⟨sumL f (numsL (max q.lo 0) (min q.hi N)), all⟩) ?_ rfl ⟨rfl, (hBu.setCell (by simp; omega) _).setCell (by simp; omega) _⟩
  simp [rtV, results, Try.results96, go_sem, HP.out.1, HP.out.2]
theorem times1_t {N all : Int} {r : Nat} {f gg : Int → Int} {w : World} {b0 b1 : Nat} {of_ : Value} {xs : List Int} (h : FMap w r f) (hT : Tells Try.prog of_ (Value.int .i64) xs (fun x => .int .i64 (gg x)) w)
    (c0 : w.heap[b0]? = some (.cells #[.int .i64 0, .int .i64 N, .map (some r), .int .i64 all] 128)) (c1 : w.heap[b1]? = some (.cells #[of_] 134))
    (hbd : ∀ x ∈ xs, -4611686018427387904 ≤ gg x * f x ∧ gg x * f x ≤ 4611686018427387904) :
    Tells Try.prog (.func (.func 140) #[] #[.pointer (some ⟨b1, 0, none⟩), .pointer (some ⟨b0, 0, none⟩)]) (Value.int .i64) xs (fun x => .int .i64 (gg x * f x)) w := by
  refine ⟨_, _, _, rfl, enters_of Try.func140 (by kernel_rfl) rfl, fun x W hx hb => ?_⟩
  have hbx := hbd x hx
  obtain ⟨b1', b2'⟩ := hbx
  obtain ⟨gt, bs, lc, rfl, et, ht⟩ := hT
  have e0 := (hb.block _ (size_of_block c0)).trans c0
  have e1 := (hb.block _ (size_of_block c1)).trans c1
  have s0 := Joins.cell_of_block e0 0
  have s1 := Joins.cell_of_block e0 1
  have s2 := Joins.cell_of_block e0 2
  have s3 := Joins.cell_of_block e0 3
  have p0 := Joins.cell_of_block e1 0
  have z0 := size_of_block e0
  have z1 := size_of_block e1
  have hf := h.later hb
  clear e0 e1 c0 c1
  show Calls _ _ #[.int .i64 x, .pointer (some ⟨b1, 0, none⟩), .pointer (some ⟨b0, 0, none⟩)] W (fun e W' => e = .returned (.int .i64 (gg x * f x)) ∧ Below W.heap.size W W')
  go_enter Try.func140, Try.ntmps140
  go_wp2_with fail
  refine wp_region_grown (by kernel_rfl) (by kernel_rfl) fun hcg => ?_
  repeat (go_big_quiet_step (fail))
  refine wpQuiet_value (.tmp 5) (.tmp 6) _ gt bs lc (.int .i64 x) (.int .i64 (gg x)) rfl rfl rfl rfl et (fun g => ht x g.val hx (below_then hb g.b)) ?_
  simp only [Act.put, List.setIfInBounds_toArray, List.set_cons_succ, List.set_cons_zero]
  repeat (go_big_quiet_step (first | (go_at_call 93; refine Calls.grown (weight_c N all x r f _ (hf.later ?_)); exact Gr.b _)))
  refine wpQuiet_nil ?_
  intro _ hw'
  obtain ⟨g, hw''⟩ := hw'
  subst hw''
  go_wp2
  go_ret
  exact ⟨rfl, g.b⟩
set_option maxRecDepth 100000 in
theorem times_c (N all : Int) (r : Nat) (f gg : Int → Int) (of_ : Value) (w : World) (h : FMap w r f) (hT : Tells Try.prog of_ (Value.int .i64) (numsL 0 N) (fun x => .int .i64 (gg x)) w) (hN2 : N ≤ 50)
    (hbd : ∀ x ∈ numsL 0 N, -4611686018427387904 ≤ gg x * f x ∧ gg x * f x ≤ 4611686018427387904)
    (hb : ∀ pre, pre <+: numsL 0 N → -4611686018427387904 ≤ sumL (fun x => gg x * f x) pre ∧ sumL (fun x => gg x * f x) pre ≤ 4611686018427387904) :
    Calls Try.prog 101 #[belV N r all, of_] w fun e w' => e = .returned (.int .i64 (sumL (fun x => gg x * f x) (numsL 0 N))) ∧ Below w.heap.size w w' := by
  obtain ⟨q0, q1, qs, qb⟩ := two_new' w (.cells #[.int .i64 0, .int .i64 N, .map (some r), .int .i64 all] 128) (.cells #[of_] 134)
  obtain ⟨gt, bs, lc, rfl, hT0⟩ : ∃ gt bs lc, of_ = .func (.func gt) bs lc ∧ True := by obtain ⟨gt, bs, lc, h, _⟩ := hT; exact ⟨gt, bs, lc, h, trivial⟩
  clear hT0
  unfold belV
  go_enter Try.func101, Try.ntmps101
  go_wp2_with fail
  have QS := Lib.hid qs
  clear qs
  generalize (w.alloc _).alloc _ = W1 at q0 q1 QS qb ⊢
  refine (numbers_c ⟨0, N⟩ _).mono ?_
  rintro e w2 ⟨rfl, rfl⟩
  have n2 := heap_alloc_new W1 (.cells #[.int .i64 0, .int .i64 N] 31)
  have a2 := below_alloc W1 (.cells #[.int .i64 0, .int .i64 N] 31)
  simp only at n2 a2 ⊢
  generalize W1.alloc (.cells #[.int .i64 0, .int .i64 N] 31) = W2 at n2 a2 ⊢
  have B2 := below_then qb a2
  have y0 := (a2.block _ (size_of_block q0)).trans q0
  have y1 := (a2.block _ (size_of_block q1)).trans q1
  go_wp2_with fail
  refine (total_c _ _ W2.heap.size (numsL 0 N) (fun x => gg x * f x) W2 (numbers_g (s := ⟨0, N⟩) (size_of_block n2) (by simp) (by simp only; omega) n2) (Nat.le_refl _) (times1_t (h.later B2) (hT.later B2) y0 y1 hbd) hb).mono ?_
  rintro e w3 ⟨rfl, hb3⟩
  go_wp2_with fail
  go_ret
  exact ⟨rfl, below_then B2 hb3⟩
end Go.Proofs.Ytaaeipjnhjgjdaa
/- The ways of a sample, by package sample. -/
namespace Go.Proofs.Ytaaeipjnhjgjdaa
open Go Go.RowKit Go.Shelf

theorem choose2_c (n k : Int) (w : World) (hn : 0 ≤ n) (hn2 : n ≤ 50) (hk : 0 ≤ k) :
    Calls Try.prog 75 #[.int .i64 n, .int .i64 k] w fun e w' => e = .returned (.int .i64 (chooseI n k)) ∧ w = w' := by
  rcases Int.lt_or_le n k with h | h
  · have h0 := Lib.hid (chooseI_gt hn h)
    go_enter Try.func75, Try.ntmps75
    go_wp2
    go_ret
    exact ⟨ret_int h0.out.symm, rfl⟩
  · exact chooseP_c n k w hn hn2 hk (by omega)
theorem waysOf_c (s : K3) (w : World) : Calls Try.prog 78 #[k3V s] w fun e w' => e = .returned (.func (.func 134) #[] #[.pointer (some ⟨w.heap.size, 0, none⟩)]) ∧ w' = w.alloc (.cells #[.int .i64 s.a, .int .i64 s.b, .int .i64 s.c] 23) := by
  unfold k3V
  go_enter Try.func78, Try.ntmps78
  go_wp2
  go_ret
  exact ⟨rfl, rfl⟩
set_option maxRecDepth 100000 in
theorem waysOf1_c (x s : K3) (b0 : Nat) (w : World) (hx : wholeP x) (h0 : 0 ≤ s.a) (h1 : 0 ≤ s.b) (h2 : 0 ≤ s.c)
    (hb : w.heap[b0]? = some (.cells #[.int .i64 s.a, .int .i64 s.b, .int .i64 s.c] 23)) :
    Calls Try.prog 134 #[k3V x, .pointer (some ⟨b0, 0, none⟩)] w fun e w' => e = .returned (.int .i64 (waysI x s)) ∧ Below w.heap.size w w' := by
  have hok := waysP_ok (s := s) hx
  obtain ⟨A0, A1⟩ := hok 1
  obtain ⟨A2, A3⟩ := hok 2
  obtain ⟨A4, A5⟩ := hok 3
  clear hok
  obtain ⟨x1, x2, x3, x4⟩ := hx
  have m1 : (1 : Int) * chooseI x.a s.a = waysP x s 1 := by rw [Int.one_mul]; rfl
  have m2 : waysP x s 1 * chooseI x.b s.b = waysP x s 2 := rfl
  have m3 : waysP x s 2 * chooseI x.c s.c = waysP x s 3 := rfl
  have y := ((below_alloc w (.cells #[.int .i64 x.a, .int .i64 x.b, .int .i64 x.c] 23)).block _ (size_of_block hb)).trans hb
  have e0 := Joins.cell_of_block y 0
  have e1 := Joins.cell_of_block y 1
  have e2 := Joins.cell_of_block y 2
  have hz := size_of_block hb
  have hz' : b0 < w.heap.size + 1 := by omega
  unfold k3V
  go_enter Try.func134, Try.ntmps134
  go_wp2_with fail
  go_loop [4, 8] (fun n i => ∃ j : Nat, j ≤ 3 ∧ i = .int .i64 j ∧ n = .int .i64 (waysP x s j)) (fun _ i => 3 - (intOf i).toNat)
  case atStart => exact ⟨0, by omega, rfl, rfl⟩
  case round =>
    obtain ⟨j, hj, rfl, rfl⟩ := hrel
    have hj4 : j = 0 ∨ j = 1 ∨ j = 2 ∨ j = 3 := by omega
    rcases hj4 with rfl | rfl | rfl | rfl
    · rw [show waysP x s 0 = 1 from rfl]
      go_wp2_with fail
      refine (choose2_c _ _ _ (by omega) (by omega) (by omega)).mono ?_
      rintro e w' ⟨rfl, rfl⟩
      go_wp2_with fail
      go_round
      case rel => exact ⟨1, by omega, by go_num, by first | rfl | rw [m1] | (congr 1; rw [← m1]; simp)⟩
      case measure => simp [intOf]
    · go_wp2_with fail
      refine (choose2_c _ _ _ (by omega) (by omega) (by omega)).mono ?_
      rintro e w' ⟨rfl, rfl⟩
      go_wp2_with fail
      go_round
      case rel => exact ⟨2, by omega, by go_num, by first | rfl | rw [m2]⟩
      case measure => simp [intOf]
    · go_wp2_with fail
      refine (choose2_c _ _ _ (by omega) (by omega) (by omega)).mono ?_
      rintro e w' ⟨rfl, rfl⟩
      go_wp2_with fail
      go_round
      case rel => exact ⟨3, by omega, by go_num, by first | rfl | rw [m3]⟩
      case measure => simp [intOf]
    · go_wp2_with fail
      go_ret
      exact ⟨rfl, below_alloc _ _⟩
theorem ways_t {s : K3} {b0 : Nat} {w : World} {xs : List K3} (hx : ∀ x ∈ xs, wholeP x) (h0 : 0 ≤ s.a) (h1 : 0 ≤ s.b) (h2 : 0 ≤ s.c)
    (hb : w.heap[b0]? = some (.cells #[.int .i64 s.a, .int .i64 s.b, .int .i64 s.c] 23)) :
    Tells Try.prog (.func (.func 134) #[] #[.pointer (some ⟨b0, 0, none⟩)]) k3V xs (fun x => .int .i64 (waysI x s)) w :=
  ⟨_, _, _, rfl, enters_of Try.func134 (by kernel_rfl) rfl, fun x W hm hW => waysOf1_c x s b0 W (hx x hm) h0 h1 h2 ((hW.block _ (size_of_block hb)).trans hb)⟩
theorem Choose_c (n k : Int) (w : World) : Calls Try.prog 23 #[.int .i64 n, .int .i64 k] w fun e w' => e = .returned (.tuple #[.int .i64 (chooseR n k).1, .int .i64 (chooseR n k).2]) ∧ Below w.heap.size w w' := by
  rcases Bool.eq_false_or_eq_true (inI n 0 50) with h | h
  · have hn : 0 ≤ n ∧ n ≤ 50 := by simpa [inI] using h
    by_cases hk : 0 ≤ k
    · rw [show chooseR n k = (chooseI n k, 0) by unfold chooseR; rw [h, if_pos (by simp [hk])]]
      have H := Lib.hid h
      have d : decide (k < 0) = false := by simp; omega
      clear h
      go_enter Try.func23, Try.ntmps23
      go_wp2_with fail
      refine (within_c _ _ _ _).mono ?_
      rintro e w' ⟨rfl, rfl⟩
      rw [H.out]
      go_wp2_with fail
      refine (choose2_c _ _ _ hn.1 hn.2 hk).mono ?_
      rintro e w' ⟨rfl, rfl⟩
      go_wp2_with fail
      go_ret2
      exact ⟨rfl, Below.refl _ _⟩
    · rw [show chooseR n k = (0, 1) by unfold chooseR; rw [h, if_neg (by simp [hk])]]
      have H := Lib.hid h
      have d : decide (k < 0) = true := by simp; omega
      clear h
      go_enter Try.func23, Try.ntmps23
      go_wp2_with fail
      refine (within_c _ _ _ _).mono ?_
      rintro e w' ⟨rfl, rfl⟩
      rw [H.out]
      go_wp2_with fail
      go_ret2
      exact ⟨rfl, Below.refl _ _⟩
  · rw [show chooseR n k = (0, 1) by unfold chooseR; rw [h, if_neg (by simp)]]
    have H := Lib.hid h
    clear h
    go_enter Try.func23, Try.ntmps23
    go_wp2_with fail
    refine (within_c _ _ _ _).mono ?_
    rintro e w' ⟨rfl, rfl⟩
    rw [H.out]
    go_wp2_with fail
    go_ret2
    exact ⟨rfl, Below.refl _ _⟩
attribute [local go_sem] Rel RelAt RelUpon
set_option maxRecDepth 100000 in
theorem Ways_c (x s : K3) (w : World) : Calls Try.prog 24 #[k3V x, k3V s] w fun e w' => e = .returned (.tuple #[.int .i64 (waysR x s).1, .int .i64 (waysR x s).2]) ∧ Below w.heap.size w w' := by
  obtain ⟨q0, q1, qs, qb⟩ := two_new' w (.cells #[.int .i64 x.a, .int .i64 x.b, .int .i64 x.c] 23) (.cells #[.int .i64 s.a, .int .i64 s.b, .int .i64 s.c] 23)
  unfold k3V
  rcases Bool.eq_false_or_eq_true (wholeB x) with h | h
  · rcases Bool.eq_false_or_eq_true (sortedB s) with hs | hs
    · rw [show waysR x s = (waysI x s, 0) by unfold waysR; rw [h, hs]; rfl]
      have hx := (wholeB_P h).1
      have hs' := hs
      simp only [sortedB, Bool.and_eq_true, decide_eq_true_eq] at hs'
      have H := Lib.hid h
      have HS := Lib.hid hs
      clear h hs
      go_enter Try.func24, Try.ntmps24
      go_wp2_with fail
      have QS := Lib.hid qs
      clear qs
      generalize (w.alloc _).alloc _ = W1 at q0 q1 QS qb ⊢
      refine (wholeP_c x _).mono ?_
      rintro e w1 ⟨rfl, hb1⟩
      rw [H.out]
      replace q0 := (hb1.block _ (size_of_block q0)).trans q0
      replace q1 := (hb1.block _ (size_of_block q1)).trans q1
      have B1 := below_then qb hb1
      clear hb1 qb
      have s0 := Joins.cell_of_block q1 0
      have s1 := Joins.cell_of_block q1 1
      have s2 := Joins.cell_of_block q1 2
      have z1 := size_of_block q1
      go_wp2_with fail
      refine (sampleP_c s _).mono ?_
      rintro e w2 ⟨rfl, hb2⟩
      rw [HS.out]
      replace q0 := (hb2.block _ (size_of_block q0)).trans q0
      replace q1 := (hb2.block _ (size_of_block q1)).trans q1
      have B2 := below_then B1 hb2
      clear hb2 B1 s0 s1 s2 z1
      have s0 := Joins.cell_of_block q1 0
      have s1 := Joins.cell_of_block q1 1
      have s2 := Joins.cell_of_block q1 2
      have t0 := Joins.cell_of_block q0 0
      have t1 := Joins.cell_of_block q0 1
      have t2 := Joins.cell_of_block q0 2
      have z1 := size_of_block q1
      have z0 := size_of_block q0
      clear q0 q1
      go_wp2_with fail
      refine wp_region_picked [0, 2] [1, 3] [4, 5] (by kernel_rfl) (by kernel_rfl) (by intro c a d v w h; cases d <;> exact h) fun hcg => ?_
      simp only [pick, List.filterMap_cons, List.filterMap_nil, List.getElem?_toArray, List.getElem?_cons_succ, List.getElem?_cons_zero]
      repeat (refine wpRel_step (fun K hK => ?_); go_simp; refine hK _ ?_; clear hK K)
      refine wpRel_nil fun g => ?_
      refine ⟨rfl, ?_⟩
      go_simp
      refine (waysOf_c s _).mono ?_
      rintro e w3 ⟨rfl, rfl⟩
      have n3 := heap_alloc_new g.val (.cells #[.int .i64 s.a, .int .i64 s.b, .int .i64 s.c] 23)
      have a3 := below_alloc g.val (.cells #[.int .i64 s.a, .int .i64 s.b, .int .i64 s.c] 23)
      refine ⟨below_then g.b a3, fun u hu => ?_⟩
      refine ⟨rfl, ?_⟩
      go_simp
      refine (waysOf1_c x s _ u hx hs'.1.1 hs'.1.2 hs'.2 ((hu.block _ (size_of_block n3)).trans n3)).mono ?_
      rintro e w4 ⟨rfl, hb4⟩
      have B4 := below_then (below_then g.b a3) (below_then hu hb4)
      refine ⟨B4, fun u2 hu2 => ?_⟩
      have hBu := below_then B2 (below_then B4 hu2)
      show wpList _ _ _ _ _ _
      clear hcg s0 s1 s2 t0 t1 t2 z0 z1
      go_wp2
      go_ret2
      exact ⟨rfl, hBu⟩
    · rw [show waysR x s = (0, 1) by unfold waysR; rw [h, hs]; rfl]
      have H := Lib.hid h
      have HS := Lib.hid hs
      clear h hs
      go_enter Try.func24, Try.ntmps24
      go_wp2_with fail
      have QS := Lib.hid qs
      clear qs
      generalize (w.alloc _).alloc _ = W1 at q0 q1 QS qb ⊢
      refine (wholeP_c x _).mono ?_
      rintro e w1 ⟨rfl, hb1⟩
      rw [H.out]
      replace q1 := (hb1.block _ (size_of_block q1)).trans q1
      have B1 := below_then qb hb1
      clear hb1 qb q0
      have s0 := Joins.cell_of_block q1 0
      have s1 := Joins.cell_of_block q1 1
      have s2 := Joins.cell_of_block q1 2
      have z1 := size_of_block q1
      go_wp2_with fail
      refine (sampleP_c s _).mono ?_
      rintro e w2 ⟨rfl, hb2⟩
      rw [HS.out]
      go_wp2_with fail
      go_ret2
      exact ⟨rfl, below_then B1 hb2⟩
  · rw [show waysR x s = (0, 1) by unfold waysR; rw [h]; rfl]
    have H := Lib.hid h
    clear h
    go_enter Try.func24, Try.ntmps24
    go_wp2_with fail
    have QS := Lib.hid qs
    clear qs
    generalize (w.alloc _).alloc _ = W1 at q0 q1 QS qb ⊢
    refine (wholeP_c x _).mono ?_
    rintro e w1 ⟨rfl, hb1⟩
    rw [H.out]
    go_wp2_with fail
    go_ret2
    exact ⟨rfl, below_then qb hb1⟩
end Go.Proofs.Ytaaeipjnhjgjdaa
/- The chance of a sample, by package sample. -/
namespace Go.Proofs.Ytaaeipjnhjgjdaa
open Go Go.RowKit Go.Shelf

theorem chance_parts {x s : K3} (h : (waysR x s).2 = 0) : wholeP x ∧ allI x = x.a + x.b + x.c ∧ 1 ≤ allI x ∧ 0 ≤ s.a ∧ 0 ≤ s.b ∧ 0 ≤ s.c ∧ waysR x s = (waysI x s, 0) ∧ (wholeB x && sortedB s) = true := by
  unfold waysR at h
  by_cases hh : (wholeB x && sortedB s) = true
  · have hh2 := hh
    rw [Bool.and_eq_true] at hh2
    have h1 := wholeB_P hh2.1
    have h2 := hh2.2
    simp only [sortedB, Bool.and_eq_true, decide_eq_true_eq] at h2
    exact ⟨h1.1, h1.2.1, h1.2.2, h2.1.1, h2.1.2, h2.2, by unfold waysR; rw [if_pos hh], hh⟩
  · rw [if_neg hh] at h; cases h
theorem ways_no {x s : K3} (h : (waysR x s).2 ≠ 0) : waysR x s = (0, 1) ∧ (wholeB x && sortedB s) = false := by
  unfold waysR at h ⊢
  by_cases hh : (wholeB x && sortedB s) = true
  · rw [if_pos hh] at h; exact absurd rfl h
  · exact ⟨by rw [if_neg hh], by simpa using hh⟩
set_option maxRecDepth 100000 in
set_option maxHeartbeats 1000000 in
theorem Chance_c (x s : K3) (w : World) : Calls Try.prog 70 #[k3V x, k3V s] w fun e w' => e = .returned (.tuple #[rtV (chanceR x s).1, .int .i64 (chanceR x s).2]) ∧ Below w.heap.size w w' := by
  obtain ⟨q0, q1, q2, qs, qb⟩ := three_new w (.cells #[.int .i64 x.a, .int .i64 x.b, .int .i64 x.c] 23) (.cells #[.int .i64 s.a, .int .i64 s.b, .int .i64 s.c] 23) (.cells #[.int .i64 0, .int .i64 0] 53)
  unfold k3V
  by_cases h : (waysR x s).2 = 0
  · obtain ⟨hx, ha, ha1, s1, s2, s3, hw, hg⟩ := chance_parts h
    obtain ⟨x1, x2, x3, x4⟩ := hx
    have WI := waysI_le (s := s) (x := x) ⟨x1, x2, x3, x4⟩
    have WN := waysI_nonneg x s
    have hd : ((waysR x s).2 != 0) = false := by rw [hw]; rfl
    have hup := Lib.hid (upTo_all (x := s) (n := x.a + x.b + x.c) (by omega))
    have HG := Lib.hid hg
    have HW := Lib.hid hw
    have HA := Lib.hid ha
    clear h hw hg ha ha1
    have hsB : sortedB s = true := by simp [sortedB, s1, s2, s3]
    rcases Bool.eq_false_or_eq_true (upToB s (x.a + x.b + x.c)) with hu | hu
    · have hu2 := upTo_iff.1 hu
      have hle : ¬ allI x < allI s := by
        have : allI s = s.a + s.b + s.c := by unfold allI; omega
        rw [HA.out, this]; omega
      have as_ : allI s = s.a + s.b + s.c := by unfold allI; omega
      have hR := Lib.hid (show chanceR x s = (ratioI (waysI x s) (chooseI (x.a + x.b + x.c) (s.a + s.b + s.c)), 0) by unfold chanceR; rw [if_pos HG.out, if_neg hle, HA.out, as_])
      have hcp := chooseI_pos (n := x.a + x.b + x.c) (k := s.a + s.b + s.c) (by omega)
      have hcl := chooseI_le (n := x.a + x.b + x.c) (s.a + s.b + s.c) (by omega)
      have HU := Lib.hid hu
      clear hu hle as_ hsB
      go_enter Try.func70, Try.ntmps70
      go_wp2_with fail
      have QS := Lib.hid qs
      clear qs
      generalize ((w.alloc _).alloc _).alloc _ = W1 at q0 q1 q2 QS qb ⊢
      refine (Ways_c x s _).mono ?_
      rintro e w1 ⟨rfl, hb1⟩
      rw [HW.out]
      replace q0 := (hb1.block _ (size_of_block q0)).trans q0
      replace q1 := (hb1.block _ (size_of_block q1)).trans q1
      replace q2 := (hb1.block _ (size_of_block q2)).trans q2
      have B1 := below_then qb hb1
      clear hb1 qb
      have t0 := Joins.cell_of_block q0 0
      have t1 := Joins.cell_of_block q0 1
      have t2 := Joins.cell_of_block q0 2
      have z0 := size_of_block q0
      go_wp2_with fail
      refine (countP_c x _ ⟨x1, x2, x3, x4⟩).mono ?_
      rintro e w2 ⟨rfl, hb2⟩
      replace q1 := (hb2.block _ (size_of_block q1)).trans q1
      replace q2 := (hb2.block _ (size_of_block q2)).trans q2
      have B2 := below_then B1 hb2
      clear hb2 B1 t0 t1 t2 z0 q0
      have t0 := Joins.cell_of_block q1 0
      have t1 := Joins.cell_of_block q1 1
      have t2 := Joins.cell_of_block q1 2
      have z0 := size_of_block q1
      go_wp2_with fail
      refine (upToP_c s _ _ (by omega) (by omega)).mono ?_
      rintro e w3 ⟨rfl, hb3⟩
      rw [HU.out]
      replace q1 := (hb3.block _ (size_of_block q1)).trans q1
      replace q2 := (hb3.block _ (size_of_block q2)).trans q2
      have B3 := below_then B2 hb3
      clear hb3 B2 t0 t1 t2 z0
      have t0 := Joins.cell_of_block q1 0
      have t1 := Joins.cell_of_block q1 1
      have t2 := Joins.cell_of_block q1 2
      have z0 := size_of_block q1
      go_wp2_with fail
      refine (countP_c s _ (by omega)).mono ?_
      rintro e w4 ⟨rfl, hb4⟩
      replace q2 := (hb4.block _ (size_of_block q2)).trans q2
      have B4 := below_then B3 hb4
      clear hb4 B3 t0 t1 t2 z0 q1
      go_wp2_with fail
      refine (chooseP_b (n := x.a + x.b + x.c) (k := s.a + s.b + s.c) _ (by omega) (by omega) (by omega) (by omega)).mono ?_
      rintro e w5 ⟨rfl, hb5⟩
      replace q2 := (hb5.block _ (size_of_block q2)).trans q2
      have B5 := below_then B4 hb5
      clear hb5 B4
      go_wp2_with fail
      refine (ratioP_c (waysI x s) (chooseI (x.a + x.b + x.c) (s.a + s.b + s.c)) _ WN (by omega) (by omega) (by omega)).mono ?_
      rintro e w6 ⟨rfl, hb6⟩
      replace q2 := (hb6.block _ (size_of_block q2)).trans q2
      have hBu := below_then B5 hb6
      clear hb6 B5
      have k0 := Joins.cell_of_block q2 0
      have k1 := Joins.cell_of_block q2 1
      have f0 := Joins.unfrozen_of_block q2 0
      have f1 := Joins.unfrozen_of_block q2 1
      have hz := size_of_block q2
      generalize hRR : ratioI (waysI x s) (chooseI (x.a + x.b + x.c) (s.a + s.b + s.c)) = R at hR ⊢
      have HP := Lib.hid (put2 (.int .i64 R.num) (.int .i64 R.den) q2)
      clear q2
      unfold rtV
      go_wp2_with fail
      refine bodyPost_ret (v := .tuple #[rtV R, .int .i64 0]) ?_ rfl ⟨by rw [hR.out], (hBu.setCell (by simp; omega) _).setCell (by simp; omega) _⟩
      simp [rtV, results, Try.results70, go_sem, HP.out.1, HP.out.2]
    · have hu2 : ¬ (0 ≤ s.a ∧ 0 ≤ s.b ∧ 0 ≤ s.c ∧ s.a + s.b + s.c ≤ x.a + x.b + x.c) := fun hh => by rw [upTo_iff.2 hh] at hu; cases hu
      have hle : allI x < allI s := by
        rw [HA.out]; unfold allI; omega
      have hR := Lib.hid (show chanceR x s = (⟨0, 0⟩, 3) by unfold chanceR; rw [if_pos HG.out, if_pos hle])
      have HU := Lib.hid hu
      clear hu hle hsB hu2
      go_enter Try.func70, Try.ntmps70
      go_wp2_with fail
      have QS := Lib.hid qs
      clear qs
      generalize ((w.alloc _).alloc _).alloc _ = W1 at q0 q1 q2 QS qb ⊢
      refine (Ways_c x s _).mono ?_
      rintro e w1 ⟨rfl, hb1⟩
      rw [HW.out]
      replace q0 := (hb1.block _ (size_of_block q0)).trans q0
      replace q1 := (hb1.block _ (size_of_block q1)).trans q1
      replace q2 := (hb1.block _ (size_of_block q2)).trans q2
      have B1 := below_then qb hb1
      clear hb1 qb
      have t0 := Joins.cell_of_block q0 0
      have t1 := Joins.cell_of_block q0 1
      have t2 := Joins.cell_of_block q0 2
      have z0 := size_of_block q0
      go_wp2_with fail
      refine (countP_c x _ ⟨x1, x2, x3, x4⟩).mono ?_
      rintro e w2 ⟨rfl, hb2⟩
      replace q1 := (hb2.block _ (size_of_block q1)).trans q1
      replace q2 := (hb2.block _ (size_of_block q2)).trans q2
      have B2 := below_then B1 hb2
      clear hb2 B1 t0 t1 t2 z0 q0
      have t0 := Joins.cell_of_block q1 0
      have t1 := Joins.cell_of_block q1 1
      have t2 := Joins.cell_of_block q1 2
      have z0 := size_of_block q1
      go_wp2_with fail
      refine (upToP_c s _ _ (by omega) (by omega)).mono ?_
      rintro e w3 ⟨rfl, hb3⟩
      rw [HU.out]
      replace q2 := (hb3.block _ (size_of_block q2)).trans q2
      have hBu := below_then B2 hb3
      clear hb3 B2 t0 t1 t2 z0 q1
      have k0 := Joins.cell_of_block q2 0
      have k1 := Joins.cell_of_block q2 1
      have f0 := Joins.unfrozen_of_block q2 0
      have f1 := Joins.unfrozen_of_block q2 1
      have hz := size_of_block q2
      have HP := Lib.hid (put2 (.int .i64 0) (.int .i64 0) q2)
      clear q2
      go_wp2_with fail
      refine bodyPost_ret (v := .tuple #[rtV ⟨0, 0⟩, .int .i64 3]) ?_ rfl ⟨by rw [hR.out], (hBu.setCell (by simp; omega) _).setCell (by simp; omega) _⟩
      simp [rtV, results, Try.results70, go_sem, HP.out.1, HP.out.2]
  · obtain ⟨hw, hg⟩ := ways_no h
    have hd : ((waysR x s).2 != 0) = true := by rw [hw]; rfl
    have hR := Lib.hid (show chanceR x s = (⟨0, 0⟩, 1) by unfold chanceR; rw [if_neg (by rw [hg]; simp)])
    have HW := Lib.hid hw
    clear h hw hg
    go_enter Try.func70, Try.ntmps70
    go_wp2_with fail
    have QS := Lib.hid qs
    clear qs
    generalize ((w.alloc _).alloc _).alloc _ = W1 at q0 q1 q2 QS qb ⊢
    refine (Ways_c x s _).mono ?_
    rintro e w1 ⟨rfl, hb1⟩
    rw [HW.out]
    replace q2 := (hb1.block _ (size_of_block q2)).trans q2
    have hBu := below_then qb hb1
    clear hb1 qb q0 q1
    have k0 := Joins.cell_of_block q2 0
    have k1 := Joins.cell_of_block q2 1
    have f0 := Joins.unfrozen_of_block q2 0
    have f1 := Joins.unfrozen_of_block q2 1
    have hz := size_of_block q2
    have HP := Lib.hid (put2 (.int .i64 0) (.int .i64 0) q2)
    clear q2
    go_wp2_with fail
    refine bodyPost_ret (v := .tuple #[rtV ⟨0, 0⟩, .int .i64 1]) ?_ rfl ⟨by rw [hR.out], (hBu.setCell (by simp; omega) _).setCell (by simp; omega) _⟩
    simp [rtV, results, Try.results70, go_sem, HP.out.1, HP.out.2]
end Go.Proofs.Ytaaeipjnhjgjdaa
