/- Texts joined: 3ProgC 3ProgD. -/
import Derived.Test.YtaaeipjnhjgjdaaJ14
import Derived.Test.YtaaeipjnhjgjdaaJ16
/- Numbers that are yielded one by one, and the sum of what is told of them. -/
namespace Go.Proofs.Ytaaeipjnhjgjdaa
open Go Go.RowKit Go.Shelf
attribute [local go_sem] Oper.semAt_some

def encI (x : Int) : Array Value := #[.int .i64 x]
set_option maxRecDepth 100000 in
set_option maxHeartbeats 2000000 in
theorem numbers1_c (l Bs n₀ B : Nat) (U : List TypeId) (s : Sp) (hl : 0 ≤ s.lo) (hs : s.hi ≤ 9223372036854775806) (hk : ∀ X Y, Kp n₀ B U X Y → X.heap[Bs]? = some (.cells #[.int .i64 s.lo, .int .i64 s.hi] 31) → Y.heap[Bs]? = some (.cells #[.int .i64 s.lo, .int .i64 s.hi] 31)) (J Jx : List Int → World → Prop) (W : World)
    (hY : ∀ pre x W1, J pre W1 → pre ++ [x] <+: numsL s.lo s.hi → YieldAt Fence.wide 0 Try.prog l (encI x) W1 fun e W' =>
        (e = .returned (.bool true) ∧ J (pre ++ [x]) W' ∧ Kp n₀ B U W1 W' ∧ KeepsFrom W.heap.size W1 W') ∨ (e = .returned (.bool false) ∧ Jx (pre ++ [x]) W' ∧ KeepsFrom W.heap.size W1 W'))
    (h0 : W.heap[Bs]? = some (.cells #[.int .i64 s.lo, .int .i64 s.hi] 31)) (hJ : J [] W) :
    Calls Try.prog 138 (#[.func (.yield l) #[] #[], .pointer (some ⟨Bs, 0, none⟩)]) W fun e W' => (∃ u, e = .returned u) ∧ (J (numsL s.lo s.hi) W' ∨ ∃ pre, pre <+: numsL s.lo s.hi ∧ Jx pre W') := by
  have H0 := Lib.hid h0
  have c00 := Joins.cell_of_block h0 0
  have HK := Lib.hid hk
  clear h0 hk
  (refine (callsIn_wide (n := 9)).1 (callsIn_of_wp Try.func138 rfl trivial ?_ rfl); simp only [Try.ntmps138, List.size_toArray, List.length_cons, List.length_nil, Nat.reduceAdd, Nat.reduceSub, Array.replicate_succ, Array.replicate_zero, List.push_toArray, List.append_toArray, List.nil_append, List.cons_append])
  gi_wp2
  gi_loopw [3] (fun i wr => ∃ x : Int, i = .int .i64 x ∧ s.lo ≤ x ∧ (x ≤ s.hi + 1 ∨ x = s.lo) ∧ J (numsL s.lo (x - 1)) wr ∧ Hid (wr.heap[Bs]? = some (.cells #[.int .i64 s.lo, .int .i64 s.hi] 31)))
    (fun i _ => (s.hi + 1 - intOf i).toNat)
  case atStart => exact ⟨s.lo, rfl, Int.le_refl _, .inr rfl, by rw [numsL_none (by omega)]; exact hJ, H0⟩
  case round =>
    obtain ⟨x, rfl, hx0, hx1, hJs, hbl⟩ := hrel
    have c1 := Joins.cell_of_block hbl.out 1
    by_cases hlt : x ≤ s.hi
    · have hp : numsL s.lo (x - 1) ++ [x] <+: numsL s.lo s.hi := by rw [← numsL_next hx0]; exact numsL_prefix hlt
      obtain ⟨fn, tmps, assign, body, hy, hR⟩ := hY _ x wr hJs hp
      unfold encI at hy
      have hnx := numsL_next hx0
      gi_wp2
      refine (round_any hR).mono ?_
      rintro e W3 (⟨rfl, hJ3, hk3, _⟩ | ⟨rfl, hJx3, _⟩)
      · have hk4 := Lib.hid (HK.out _ _ hk3 hbl.out)
        clear hk3
        gi_wp2
        go_roundw
        case rel => exact ⟨x + 1, rfl, by omega, by omega, by rw [Int.add_sub_cancel, hnx]; exact hJ3, hk4⟩
        case measure => simp [intOf]; omega
      · gi_wp2
        refine bodyPost_ret (results_none rfl _ _ _) rfl ?_
        exact ⟨⟨_, rfl⟩, .inr ⟨_, hp, hJx3⟩⟩
    · gi_wp2
      go_end0
      refine ⟨⟨_, rfl⟩, .inl ?_⟩
      have : numsL s.lo (x - 1) = numsL s.lo s.hi := by
        rcases hx1 with h | h
        · congr 1; omega
        · rw [numsL_none (by omega), numsL_none (by omega)]
      rw [← this]; exact hJs
/-- The numbers of a span, to whoever keeps what lay below n₀, and its box there. -/
theorem numbers_g {w : World} {Bs n₀ B : Nat} {U : List TypeId} {s : Sp} (hb : Bs < n₀) (hl : 0 ≤ s.lo) (hs : s.hi ≤ 9223372036854775806) (h0 : w.heap[Bs]? = some (.cells #[.int .i64 s.lo, .int .i64 s.hi] 31)) :
    Gives Try.prog n₀ B U (.func (.func 138) #[] #[.pointer (some ⟨Bs, 0, none⟩)]) encI (numsL s.lo s.hi) w := by
  refine ⟨_, _, rfl, enters_of Try.func138 (by kernel_rfl) rfl, fun l J Jx W hW _ _ hY hJ => ?_⟩
  exact numbers1_c l Bs n₀ B U s hl hs (fun X Y h hx => (h.b.block _ hb).trans hx) J Jx W hY ((hW.block _ (size_of_block h0)).trans h0) hJ
/-- .. or to whoever keeps the spans from B on. -/
theorem numbers_g2 {w : World} {Bs n₀ B : Nat} {U : List TypeId} {s : Sp} (hb : B ≤ Bs) (hU : 31 ∈ U) (hl : 0 ≤ s.lo) (hs : s.hi ≤ 9223372036854775806) (h0 : w.heap[Bs]? = some (.cells #[.int .i64 s.lo, .int .i64 s.hi] 31)) :
    Gives Try.prog n₀ B U (.func (.func 138) #[] #[.pointer (some ⟨Bs, 0, none⟩)]) encI (numsL s.lo s.hi) w := by
  refine ⟨_, _, rfl, enters_of Try.func138 (by kernel_rfl) rfl, fun l J Jx W hW _ _ hY hJ => ?_⟩
  exact numbers1_c l Bs n₀ B U s hl hs (fun X Y h hx => h.t _ _ _ _ hb hx hU) J Jx W hY ((hW.block _ (size_of_block h0)).trans h0) hJ
theorem numbers_c (s : Sp) (w : World) :
    Calls Try.prog 92 #[spV s] w fun e w' => e = .returned (.func (.func 138) #[] #[.pointer (some ⟨w.heap.size, 0, none⟩)]) ∧ w' = w.alloc (.cells #[.int .i64 s.lo, .int .i64 s.hi] 31) := by
  unfold spV
  go_enter Try.func92, Try.ntmps92
  go_wp2
  go_ret
  exact ⟨rfl, rfl⟩
/-- The function value v tells f of each thing of xs: it returns g x, and makes memory of its own alone. -/
def Tells {α : Type} (P : Program) (v : Value) (enc : α → Value) (xs : List α) (g : α → Value) (w : World) : Prop :=
  ∃ (gf : Nat) (bs lb : Array Value), v = .func (.func gf) bs lb ∧ (∀ args w, (callFunc gf args).run P w = .ok (.enter gf args) w) ∧
    ∀ (x : α) (W : World), x ∈ xs → Below w.heap.size w W → Calls P gf (bs ++ #[enc x] ++ lb) W fun e W' => e = .returned (g x) ∧ Below W.heap.size W W'
theorem Tells.later {α : Type} {P : Program} {v : Value} {enc : α → Value} {xs : List α} {g : α → Value} {w w' : World} (h : Tells P v enc xs g w) (hb : Below w.heap.size w w') : Tells P v enc xs g w' := by
  obtain ⟨gf, bs, lb, e1, e2, hg⟩ := h
  exact ⟨gf, bs, lb, e1, e2, fun x W hx hW => hg x W hx (below_then hb hW)⟩

/-- A function value is called in a region that draws: what it makes is its own. -/
theorem wpQuiet_value {P : Program} {ops : Array Oper} {o : Oper} {rest : List Oper} {a : Act} {w : World} {Q : Act → Prop} (tv ta : Operand) (ty : Array TypeId) (gf : Nat) (bs lc : Array Value) (x v : Value)
    (hop : o.op = Op.call { callee := .value tv, args := #[ta], argTypes := ty }) (hg : o.guard = none) (hv : a.eval tv = .func (.func gf) bs lc) (hx : a.eval ta = x)
    (et : ∀ args w, (callFunc gf args).run P w = .ok (.enter gf args) w)
    (hc : ∀ g : Gr w, Calls P gf (bs ++ #[x] ++ lc) g.val fun e w' => e = .returned v ∧ Below g.val.heap.size g.val w')
    (h : wpQuiet P ops (fun w' => ∃ g : Gr w, w' = g.val) Q rest (a.put o.dst v)) : wpQuiet P ops (fun w' => ∃ g : Gr w, w' = g.val) Q (o :: rest) a := by
  refine BigFrame.wpQuiet_want (by simp [Region.wanted, hg]) fun K hK => ⟨v, fun w' hw' => ?_, hK _ h⟩
  obtain ⟨g, rfl⟩ := hw'
  have e : (execOp a.eval o).run P g.val = .ok (.enter gf (bs ++ #[x] ++ lc)) g.val := by
    simp only [execOp, hop, resolve, hv, List.map_toArray, List.map_cons, List.map_nil, hx]
    simp [invoke, go_sem, et]
  unfold Oper.quietAt
  rw [e]
  exact ⟨rfl, Calls.grown (hc g)⟩
/-- A block of cells is what OwnFrom B leaves alone, wherever it lies. -/
theorem own_cells {β : Type} (B r : Nat) (f : β → Obj) (hc : ∀ s, (f s).isCells = true) : OwnFrom B (fun s W => W.heap[r]? = some (f s)) := fun s X Y row hs hg hrow =>
  (hg.block r (Array.getElem?_eq_some_iff.1 hs).1 (fun e => by obtain ⟨_, o, ho, hn⟩ := hrow r e.symm; rw [hs] at ho; cases ho; rw [hc] at hn; cases hn)).trans hs
theorem block_setCell_lt {w : World} {g i k : Nat} {v : Value} (h : k < g) : (w.setCell ⟨g, i, none⟩ v).heap[k]? = w.heap[k]? := ((Below.refl g w).setCell (p := ⟨g, i, none⟩) (Nat.le_refl g) v).block k h
theorem keeps_of_below {B : Nat} {W W' : World} (h : Below W.heap.size W W') : KeepsFrom B W W' := ⟨h.size, fun k _ _ hk _ => (h.block k (Array.getElem?_eq_some_iff.1 hk).1).trans hk⟩
set_option maxRecDepth 100000 in
set_option maxHeartbeats 2000000 in
theorem total_c (things of_ : Value) (n₀ : Nat) (xs : List Int) (f : Int → Int) (w : World) (hG : Gives Try.prog n₀ 0 [] things encI xs w) (hn : n₀ ≤ w.heap.size) (hT : Tells Try.prog of_ (Value.int .i64) xs (fun x => .int .i64 (f x)) w)
    (hb : ∀ pre, pre <+: xs → -4611686018427387904 ≤ sumL f pre ∧ sumL f pre ≤ 4611686018427387904) :
    Calls Try.prog 125 #[things, of_] w fun e w' => e = .returned (.int .i64 (sumL f xs)) ∧ Below w.heap.size w w' := by
  have hG0 := hG
  obtain ⟨gf, lb, rfl, _, _⟩ := hG0
  obtain ⟨gt, bs, lc, rfl, et, ht⟩ := hT
  (refine (callsIn_wide (n := 9)).1 (callsIn_of_wp_marks Try.func125 rfl trivial ?_ rfl); simp only [Try.ntmps125, List.size_toArray, List.length_cons, List.length_nil, Nat.reduceAdd, Nat.reduceSub, Array.replicate_succ, Array.replicate_zero, List.push_toArray, List.append_toArray, List.nil_append, List.cons_append])
  gi_wp2
  have hB0 : Below w.heap.size w ((w.alloc (.cells #[.func (.func gt) bs lc] 134)).alloc (.cells #[.int .i64 0] 3)) := ((Below.refl _ w).alloc (Nat.le_refl _) _).alloc (by simp) _
  have hsz : ((w.alloc (.cells #[.func (.func gt) bs lc] 134)).alloc (.cells #[.int .i64 0] 3)).heap.size = w.heap.size + 2 := by simp
  have b1 : ((w.alloc (.cells #[.func (.func gt) bs lc] 134)).alloc (.cells #[.int .i64 0] 3)).heap[w.heap.size + 1]? = some (.cells #[.int .i64 0] 3) := box2 _ _ _ _
  have b0 : ((w.alloc (.cells #[.func (.func gt) bs lc] 134)).alloc (.cells #[.int .i64 0] 3)).heap[w.heap.size]? = some (.cells #[.func (.func gt) bs lc] 134) := ((below_alloc _ _).block w.heap.size (by simp)).trans (heap_alloc_new w _)
  obtain ⟨W0, hW0⟩ : ∃ W0, (w.alloc (.cells #[.func (.func gt) bs lc] 134)).alloc (.cells #[.int .i64 0] 3) = W0 := ⟨_, rfl⟩
  rw [hW0] at hB0 hsz b1 b0 ⊢
  clear hW0
  refine wpIn_over (hG.later hB0) rfl (fun _ => rfl) (by omega)
    (fun pre W => (W.heap[w.heap.size + 1]? = some (.cells #[.int .i64 (sumL f pre)] 3) ∧ W.heap[w.heap.size]? = some (.cells #[.func (.func gt) bs lc] 134)) ∧ Below w.heap.size w W)
    (fun _ _ _ => False)
    (((own_cells _ _ _ fun _ => rfl).and (own_cells _ _ _ fun _ => rfl)).and (ownFrom_below (Nat.le_refl _) (by omega)))
    (fun _ _ _ _ _ hs _ _ => hs) ⟨⟨b1, b0⟩, hB0⟩
    (fun x a' _ => a' = { tmps := #[.func (.func gf) #[] lb, .func (.func gt) bs lc, undef, .pointer (some ⟨w.heap.size, 0, none⟩), .int .i64 0, .pointer (some ⟨w.heap.size + 1, 0, none⟩), .int .i64 x, .func (.func gf) #[] lb, .int .i64 x, undef, undef, undef, undef, undef, undef], defers := [] })
    (fun _ _ _ _ _ _ hs _ _ => hs) ?assign ?body ?done ?stop
  case assign =>
    intro l pre x W K hl hi hp hK
    unfold encI
    gi_wp2
    exact hK _ _ (KeepsFrom.refl _ _) (Kp.refl _ _ _ _) hi rfl
  case body =>
    rintro l pre x a' W hl hrc ⟨⟨s1, s0⟩, hbw⟩ rfl hp
    have hws := hbw.size
    have z1 := Joins.cell_of_block s1 0
    have z0 := Joins.cell_of_block s0 0
    have f1 := Joins.unfrozen_of_block s1 0
    have hz1 := size_of_block s1
    have hz0 := size_of_block s0
    have hx : x ∈ xs := hp.subset (by simp)
    have hbd := hb _ hp
    rw [sumL_append, sumL_cons, sumL_nil, Int.add_zero] at hbd
    obtain ⟨hbd1, hbd2⟩ := hbd
    have hT := ht x
    gi_wp2
    refine wpIn_region_grown_tail (r := some l) 5 (by kernel_rfl) (by kernel_rfl) fun hcg => ?_
    simp only [List.take_succ_cons, List.take_zero, List.drop_succ_cons, List.drop_zero]
    repeat (go_big_quiet_step (fail))
    refine wpQuiet_value (.tmp 10) (.tmp 11) _ gt bs lc (.int .i64 x) (.int .i64 (f x)) rfl rfl rfl rfl et (fun g => ht x g.val hx (below_then hbw g.b)) ?_
    simp only [Act.put, List.setIfInBounds_toArray, List.set_cons_succ, List.set_cons_zero]
    repeat (go_big_quiet_step (fail))
    refine wpQuiet_nil ?_
    intro _ hw'
    obtain ⟨g, hw''⟩ := hw'
    subst hw''
    have s1g := (g.b.block _ hz1).trans s1
    have s0g := (g.b.block _ hz0).trans s0
    have z1g := Joins.cell_of_block s1g 0
    have f1g := Joins.unfrozen_of_block s1g 0
    have hgs := g.b.size
    clear hcg
    gi_wp2
    refine ⟨(keeps_of_below g.b).trans ((KeepsOthers.setCell _ _ _).from _), ⟨(g.b.mono (by omega)).setCell (p := ⟨w.heap.size + 1, 0, none⟩) (by simp; omega) _, fun _ _ _ _ _ _ h => (by cases h)⟩, ⟨⟨?_, ?_⟩, (hbw.trans (g.b.mono (by omega))).setCell (p := ⟨w.heap.size + 1, 0, none⟩) (by simp) _⟩⟩
    · rw [sumL_append, sumL_cons, sumL_nil, Int.add_zero]
      exact Joins.block_setCell (i := 0) s1g _
    · exact (block_setCell_lt (by omega)).trans s0g
  case done =>
    rintro D W hD ⟨⟨s1, s0⟩, hbw⟩ hK
    have z1 := Joins.cell_of_block s1 0
    gi_wp2
    refine ⟨by simp, .inl ⟨_, _, rfl, run_takeDeferred hK, ?_⟩⟩
    exact ⟨_, results_tmp rfl _ _ _, rfl, hbw.trans (belowK_b (w := w) (Nat.le_refl _) W D _ _ (by omega) hK rfl rfl)⟩
  case stop =>
    intro D c pre W _ _ h _
    exact h.elim
end Go.Proofs.Ytaaeipjnhjgjdaa
/- Numbers of bad barrows, by package sample. -/
namespace Go.Proofs.Ytaaeipjnhjgjdaa
open Go Go.RowKit Go.Shelf

theorem sumL_prefix {α : Type} {f : α → Int} {pre l : List α} (hp : pre <+: l) (h : ∀ x ∈ l, 0 ≤ f x) : 0 ≤ sumL f pre ∧ sumL f pre ≤ sumL f l := by
  obtain ⟨t, rfl⟩ := hp
  have h1 := sumL_nonneg (f := f) (l := pre) fun x hx => h x (by simp [hx])
  have h2 := sumL_nonneg (f := f) (l := t) fun x hx => h x (by simp [hx])
  rw [sumL_append]; omega
theorem found_c (n m t : Int) (w : World) (h0 : 0 ≤ m) (h1 : m ≤ n) (h2 : n ≤ 50) (h3 : 0 ≤ t) (h4 : t ≤ n) :
    Calls Try.prog 126 #[.int .i64 n, .int .i64 m, .int .i64 t] w fun e w' => e = .returned (spV ⟨foundLo n m t, foundHi m t⟩) ∧ Below w.heap.size w w' := by
  have hy := heap_alloc_new w (.cells #[.int .i64 (max 0 (t - (n - m))), .int .i64 (min t m)] 31)
  have HP := Lib.hid (And.intro (Joins.cell_of_block hy 0) (Joins.cell_of_block hy 1))
  go_enter Try.func126, Try.ntmps126
  go_wp2
  refine bodyPost_ret (v := spV ⟨foundLo n m t, foundHi m t⟩) ?_ rfl ⟨rfl, below_alloc _ _⟩
  simp [spV, foundLo, foundHi, results, Try.results126, go_sem, HP.out.1, HP.out.2]
theorem justly_c (n m t : Int) (w : World) :
    Calls Try.prog 124 #[.int .i64 n, .int .i64 m, .int .i64 t] w fun e w' => e = .returned (.func (.func 145) #[] #[.pointer (some ⟨w.heap.size + 1, 0, none⟩), .pointer (some ⟨w.heap.size, 0, none⟩), .pointer (some ⟨w.heap.size + 1 + 1, 0, none⟩)]) ∧
      w' = ((w.alloc (.cells #[.int .i64 n] 3)).alloc (.cells #[.int .i64 m] 3)).alloc (.cells #[.int .i64 t] 3) := by
  go_enter Try.func124, Try.ntmps124
  go_wp2
  go_ret
  exact ⟨rfl, rfl⟩
theorem justly_t {n m t : Int} {w : World} {b0 b1 b2 : Nat} (h0 : 0 ≤ m) (h1 : m ≤ n) (h2 : n ≤ 50) (h3 : 0 ≤ t)
    (c0 : w.cell? ⟨b0, 0, none⟩ = some (.int .i64 n)) (c1 : w.cell? ⟨b1, 0, none⟩ = some (.int .i64 m)) (c2 : w.cell? ⟨b2, 0, none⟩ = some (.int .i64 t)) {lo hi : Int} (hlo : 0 ≤ lo) (hhi : hi ≤ t) (ht : t ≤ 50) (z0 : b0 < w.heap.size) (z1 : b1 < w.heap.size) (z2 : b2 < w.heap.size) :
    Tells Try.prog (.func (.func 145) #[] #[.pointer (some ⟨b1, 0, none⟩), .pointer (some ⟨b0, 0, none⟩), .pointer (some ⟨b2, 0, none⟩)]) (Value.int .i64) (numsL lo hi) (fun x => .int .i64 (hit n m t x.toNat)) w := by
  refine ⟨_, _, _, rfl, enters_of Try.func145 (by kernel_rfl) rfl, fun x W hx hb => ?_⟩
  have hx' := mem_nums.1 hx
  obtain ⟨x1, x2⟩ := hx'
  clear hx
  have e0 := (hb.cell (p := ⟨b0, 0, none⟩) z0).trans c0
  have e1 := (hb.cell (p := ⟨b1, 0, none⟩) z1).trans c1
  have e2 := (hb.cell (p := ⟨b2, 0, none⟩) z2).trans c2
  have hws := hb.size
  have y0 : b0 < W.heap.size := by omega
  have y1 : b1 < W.heap.size := by omega
  have y2 : b2 < W.heap.size := by omega
  have hp0 : 0 ≤ chooseI m x * chooseI (n - m) (t - x) := Int.mul_nonneg (chooseI_nonneg _ _) (chooseI_nonneg _ _)
  have hp1 : chooseI m x * chooseI (n - m) (t - x) ≤ 126410606437752 := choose_mul_le h0 (by omega) (by omega)
  have hv : hit n m t x.toNat = chooseI m x * chooseI (n - m) (t - x) := by unfold hit; rw [show ((x.toNat : Nat) : Int) = x by omega]
  show Calls _ _ #[.int .i64 x, .pointer (some ⟨b1, 0, none⟩), .pointer (some ⟨b0, 0, none⟩), .pointer (some ⟨b2, 0, none⟩)] W (fun e W' => e = .returned (.int .i64 (hit n m t x.toNat)) ∧ Below W.heap.size W W')
  rw [hv]
  clear hb hws c0 c1 c2 z0 z1 z2 hv
  go_enter Try.func145, Try.ntmps145
  go_wp2
  refine wp_region_grown (by kernel_rfl) (by kernel_rfl) fun hcg => ?_
  repeat (go_big_quiet_step (first | (go_at_call 75; exact Calls.grown (chooseP_b _ (by omega) (by omega) (by omega) (by omega)))))
  refine wpQuiet_nil ?_
  intro _ hw'
  obtain ⟨g, hw''⟩ := hw'
  subst hw''
  go_wp2
  go_ret
  exact ⟨rfl, g.b⟩
theorem three_new (w : World) (o0 o1 o2 : Obj) : (((w.alloc o0).alloc o1).alloc o2).heap[w.heap.size]? = some o0 ∧ (((w.alloc o0).alloc o1).alloc o2).heap[w.heap.size + 1]? = some o1 ∧ (((w.alloc o0).alloc o1).alloc o2).heap[w.heap.size + 1 + 1]? = some o2 ∧
    (((w.alloc o0).alloc o1).alloc o2).heap.size = w.heap.size + 3 ∧ Below w.heap.size w (((w.alloc o0).alloc o1).alloc o2) := by
  have a := heap_alloc_new w o0
  have b := heap_alloc_new (w.alloc o0) o1
  have c := heap_alloc_new ((w.alloc o0).alloc o1) o2
  have k1 := below_alloc (w.alloc o0) o1
  have k2 := below_alloc ((w.alloc o0).alloc o1) o2
  simp only [World.size_alloc] at b c k1 k2
  refine ⟨?_, ?_, c, by simp only [World.size_alloc], below_then (below_alloc w o0) (below_then (below_alloc _ o1) (below_alloc _ o2))⟩
  · rw [k2.block _ (by omega), k1.block _ (by omega)]; exact a
  · rw [k2.block _ (by omega)]; exact b
set_option maxRecDepth 100000 in
theorem upTo_c (n m t k : Int) (w : World) (h0 : 0 ≤ m) (h1 : m ≤ n) (h2 : n ≤ 50) (h3 : 0 ≤ t) (h4 : t ≤ n) :
    Calls Try.prog 113 #[.int .i64 n, .int .i64 m, .int .i64 t, .int .i64 k] w fun e w' => e = .returned (.int .i64 (atMostI n m t k)) ∧ Below w.heap.size w w' := by
  go_enter Try.func113, Try.ntmps113
  go_wp2_with fail
  refine (found_c n m t _ h0 h1 h2 h3 h4).mono ?_
  rintro e w1 ⟨rfl, hb1⟩
  go_wp2_with fail
  refine (numbers_c ⟨foundLo n m t, min (foundHi m t) k⟩ _).mono ?_
  rintro e w2 ⟨rfl, rfl⟩
  have hn2 := heap_alloc_new (w1.alloc (.cells #[.int .i64 (foundLo n m t), .int .i64 (min (foundHi m t) k)] 31)) (.cells #[.int .i64 (foundLo n m t), .int .i64 (min (foundHi m t) k)] 31)
  have hB2 := below_then hb1 (below_then (below_alloc w1 (.cells #[.int .i64 (foundLo n m t), .int .i64 (min (foundHi m t) k)] 31)) (below_alloc _ (.cells #[.int .i64 (foundLo n m t), .int .i64 (min (foundHi m t) k)] 31)))
  simp only at hn2 hB2 ⊢
  rw [World.size_alloc] at hn2
  generalize hW2 : (w1.alloc (.cells #[.int .i64 (foundLo n m t), .int .i64 (min (foundHi m t) k)] 31)).alloc (.cells #[.int .i64 (foundLo n m t), .int .i64 (min (foundHi m t) k)] 31) = W2 at hn2 hB2 ⊢
  have hz2 := size_of_block hn2
  have hG : Gives Try.prog W2.heap.size 0 [] _ encI (numsL (foundLo n m t) (min (foundHi m t) k)) W2 := numbers_g (s := ⟨foundLo n m t, min (foundHi m t) k⟩) hz2 (by simp only [foundLo]; omega) (by simp only [foundHi]; omega) hn2
  go_wp2_with fail
  refine (justly_c n m t _).mono ?_
  rintro e w3 ⟨rfl, rfl⟩
  obtain ⟨q0, q1, q2, qs, qb⟩ := three_new W2 (.cells #[.int .i64 n] 3) (.cells #[.int .i64 m] 3) (.cells #[.int .i64 t] 3)
  generalize ((W2.alloc (.cells #[.int .i64 n] 3)).alloc (.cells #[.int .i64 m] 3)).alloc (.cells #[.int .i64 t] 3) = W3 at q0 q1 q2 qs qb ⊢
  have hsum := upTo_eq h0 h1 h3 k
  have hle := atMost_le h0 h1 h3 k
  have hcl := chooseI_le t h2
  go_wp2_with fail
  refine (total_c _ _ W2.heap.size (numsL (foundLo n m t) (min (foundHi m t) k)) (fun x => hit n m t x.toNat) W3 (hG.later qb) qb.size
    (justly_t h0 h1 h2 h3 (Joins.cell_of_block q0 0) (Joins.cell_of_block q1 0) (Joins.cell_of_block q2 0) (by unfold foundLo; omega) (by unfold foundHi; omega) (by omega) (by omega) (by omega) (by omega)) (fun pre hp => by
      have := sumL_prefix (f := fun x : Int => hit n m t x.toNat) hp fun x _ => hit_nonneg _ _ _ _
      omega)).mono ?_
  rintro e w4 ⟨rfl, hb4⟩
  rw [hsum]
  go_wp2_with fail
  go_ret
  exact ⟨rfl, below_then hB2 (below_then qb hb4)⟩
end Go.Proofs.Ytaaeipjnhjgjdaa
