/- Texts joined: FProgF FProgG FProgAlone. -/
import Derived.Test.YtjpoacffnpgjdaaGreatJ12
import Derived.Great.BuildSlice
import Derived.Laws.CopyOwn
import Derived.Test.YtjpoacffnpgjdaaGreatJ7
import Derived.Test.YtjpoacffnpgjdaaGreatJ8
/- What is known without a look: the looks of a sight, less one; by the program. -/
namespace Go.Proofs.YtjpoacffnpgjdaaGreat
open Go Go.RowKit Go.Shelf
attribute [local go_sem] Oper.semAt_some
@[reducible] def siV (f : Fi) (fv : Value) : Value := .agg #[.int .i64 f.rise, .int .i64 f.fall, .int .i64 f.up, .int .i64 f.down, fv]

theorem but1_snoc (l : List Lk) (x : Lk) (id : Int) : but1 (l ++ [x]) id = but1 l id ++ (if x.id != id then [x] else []) := by
  unfold but1; rw [List.filter_append]; congr 1; simp [List.filter_cons]
theorem but1_prefix {p l : List Lk} (h : p <+: l) (id : Int) : but1 p id <+: but1 l id := by
  obtain ⟨t, rfl⟩ := h
  unfold but1; rw [List.filter_append]; exact List.prefix_append _ _
theorem but1_step {pre S : List Lk} {x : Lk} {id : Int} (h : pre ++ [x] <+: S) (hx : (x.id != id) = true) : but1 pre id ++ [x] <+: but1 S id := by
  have := but1_prefix h id
  rw [but1_snoc, hx] at this
  simpa using this
/-- What the iterators of package fire make that has to stay: the functions that they were handed. -/
abbrev fireU : List TypeId := [125, 172]
set_option maxRecDepth 100000 in
set_option maxHeartbeats 4000000 in
theorem but_g {w : World} {Bs Bi n₀ : Nat} {f : Fi} {fv : Value} {S : List Lk} {id : Int} (hb1 : Bs < n₀) (hb2 : Bi < n₀) (hn₀ : n₀ ≤ w.heap.size)
    (h0 : w.heap[Bs]? = some (.cells #[.int .i64 f.rise, .int .i64 f.fall, .int .i64 f.up, .int .i64 f.down, fv] 114)) (h1 : w.heap[Bi]? = some (.cells #[.int .i64 id] 3)) (hG : Gives Tryz.prog n₀ 0 fireU fv encLk S w) :
    Gives Tryz.prog n₀ 0 fireU (.func (.func 136) #[] #[.pointer (some ⟨Bs, 0, none⟩), .pointer (some ⟨Bi, 0, none⟩)]) encLk (but1 S id) w := by
  refine ⟨_, _, rfl, enters_of Tryz.func136 (by kernel_rfl) rfl, fun l J Jx W hW oJ oJx hY hJ => ?_⟩
  obtain ⟨gf, lb, rfl, -⟩ : ∃ gf lb, fv = .func (.func gf) #[] lb ∧ True := by obtain ⟨gf, lb, h, _⟩ := hG; exact ⟨gf, lb, h, trivial⟩
  replace h0 := (hW.block _ (size_of_block h0)).trans h0
  replace h1 := (hW.block _ (size_of_block h1)).trans h1
  replace hG := hG.later hW
  replace hn₀ := Nat.le_trans hn₀ hW.size
  clear hW
  have c4 := Joins.cell_of_block h0 4
  have z0 := size_of_block h0
  show Calls _ _ #[.func (.yield l) #[] #[], .pointer (some ⟨Bs, 0, none⟩), .pointer (some ⟨Bi, 0, none⟩)] W _
  (refine (callsIn_wide (n := 9)).1 (callsIn_of_wp_marks Tryz.func136 rfl trivial ?_ rfl); simp only [Tryz.ntmps136, List.size_toArray, List.length_cons, List.length_nil, Nat.reduceAdd, Nat.reduceSub, Array.replicate_succ, Array.replicate_zero, List.push_toArray, List.append_toArray, List.nil_append, List.cons_append])
  gi_wp2_with fail
  have y0 := heap_alloc_new W (.cells #[.func (.yield l) #[] #[]] 125)
  have a1 := below_alloc W (.cells #[.func (.yield l) #[] #[]] 125)
  generalize W.alloc (.cells #[.func (.yield l) #[] #[]] 125) = W0 at y0 a1 ⊢
  have J0 := own_grown oJ hJ a1
  have q0 := (a1.block _ z0).trans h0
  have q1 := (a1.block _ (size_of_block h1)).trans h1
  have s1 := a1.size
  have zy := size_of_block y0
  clear c4
  refine wpIn_over (U := fireU) (n₀ := n₀) (B := 0) (hG.later a1) rfl (fun _ => rfl) (by omega)
    (fun pre W' => (W'.heap[W.heap.size]? = some (.cells #[.func (.yield l) #[] #[]] 125) ∧ W'.heap[Bs]? = some (.cells #[.int .i64 f.rise, .int .i64 f.fall, .int .i64 f.up, .int .i64 f.down, .func (.func gf) #[] lb] 114)) ∧ W'.heap[Bi]? = some (.cells #[.int .i64 id] 3) ∧ J (but1 pre id) W')
    (fun c _ W' => c = .ret ∧ ∃ q, q <+: but1 S id ∧ Jx q W')
    (((own_cells _ _ _ fun _ => rfl).and (own_cells _ _ _ fun _ => rfl)).and ((own_cells _ _ _ fun _ => rfl).and (own_comp (ownUp oJ (by omega)) _)))
    (fun c s X Y row hs hg hrow => ⟨hs.1, hs.2.elim fun q hq => ⟨q, hq.1, ownUp oJx (by omega) q X Y row hq.2 hg hrow⟩⟩) ⟨⟨y0, q0⟩, q1, J0⟩
    (fun x a' W' => ∃ Bx, W.heap.size ≤ Bx ∧ W'.heap[Bx]? = some (.cells #[.int .i64 x.id, .int .i64 x.foot, .int .i64 x.hour, .int .i64 x.lo, .int .i64 x.hi] 90) ∧ a' = { tmps := #[.func (.yield l) #[] #[], .pointer (some ⟨Bs, 0, none⟩), .pointer (some ⟨Bi, 0, none⟩), .pointer (some ⟨W.heap.size, 0, none⟩), .pointer (some ⟨Bx, 0, none⟩), .pointer (some ⟨Bs, 4, none⟩), .func (.func gf) #[] lb, .agg #[.int .i64 x.id, .int .i64 x.foot, .int .i64 x.hour, .int .i64 x.lo, .int .i64 x.hi], undef, undef, undef, undef, undef, undef, undef, undef, undef, undef], defers := [] })
    (fun x a' s X Y row hs hg hrow => by
      obtain ⟨Bx, h1, h2, h3⟩ := hs
      exact ⟨Bx, h1, own_cells (β := Unit) W0.heap.size Bx (fun _ => .cells #[.int .i64 x.id, .int .i64 x.foot, .int .i64 x.hour, .int .i64 x.lo, .int .i64 x.hi] 90) (fun _ => rfl) s X Y row h2 hg hrow, h3⟩) ?assign ?body ?done ?stop
  case assign =>
    rintro l2 pre x W' K hl ⟨⟨i1, i2⟩, i3, i4⟩ hp hK
    unfold encLk lkV
    gi_wp2
    have ha := below_alloc W' (.cells #[.int .i64 x.id, .int .i64 x.foot, .int .i64 x.hour, .int .i64 x.lo, .int .i64 x.hi] 90)
    have := size_of_block i1
    exact hK _ _ (keeps_of_below ha) (Kp.of_below ha (by omega)) ⟨⟨(ha.block _ (size_of_block i1)).trans i1, (ha.block _ (size_of_block i2)).trans i2⟩, (ha.block _ (size_of_block i3)).trans i3, own_grown oJ i4 ha⟩ ⟨W'.heap.size, by omega, heap_alloc_new _ _, rfl⟩
  case done =>
    rintro D W' hD ⟨_, _, i4⟩ hK
    gi_wp2
    refine ⟨by simp, .inl ⟨_, _, rfl, run_takeDeferred hK, ?_⟩⟩
    exact ⟨_, results_none rfl _ _ _, ⟨_, rfl⟩, .inl ((ownUp oJ s1).putObj _ i4 hD hK rfl)⟩
  case stop =>
    rintro D c pre W' hD hp ⟨rfl, q, hq1, hq2⟩ hK
    gi_wp2
    refine ⟨by simp, .inl ⟨_, _, rfl, run_takeDeferred hK, ?_⟩⟩
    exact ⟨_, results_none rfl _ _ _, ⟨_, rfl⟩, .inr ⟨q, hq1, (ownUp oJx s1).putObj _ hq2 hD hK rfl⟩⟩
  case body =>
    rintro l2 pre x a' W1 hl ⟨rc, hrc⟩ ⟨⟨i1, i2⟩, i3, i4⟩ ⟨Bx, hBx, xB, rfl⟩ hp
    have y0 := Joins.cell_of_block i1 0
    have c1 := Joins.cell_of_block i3 0
    have x0 := Joins.cell_of_block xB 0
    have x1 := Joins.cell_of_block xB 1
    have x2 := Joins.cell_of_block xB 2
    have x3 := Joins.cell_of_block xB 3
    have x4 := Joins.cell_of_block xB 4
    have hnx := Lib.hid (but1_snoc pre x id)
    cases hx : x.id != id with
    | true =>
      have hst := but1_step hp hx
      obtain ⟨fn, tmps, assign, body, hyy, hR⟩ := yield_any (r := some l2) (m' := 6) (hY _ x W1 i4 hst)
      have HX := Lib.hid hx
      have HST := Lib.hid hst
      clear hst
      unfold encLk lkV at hyy
      gi_wp2_with fail
      refine hR.mono ?_
      rintro e W8 (⟨rfl, hJ8, hk8, hf8⟩ | ⟨rfl, hJx8, hf8⟩)
      · gi_wp2_with fail
        refine ⟨keepsFrom_up hf8 (by omega), hk8, ⟨⟨hk8.t _ _ _ _ (Nat.zero_le _) i1 (by simp), (hk8.b.block _ hb1).trans i2⟩, (hk8.b.block _ hb2).trans i3, ?_⟩⟩
        rw [hnx.out, HX.out]
        exact hJ8
      · gi_wp2_with fail
        exact ⟨keepsFrom_up hf8 (by omega), rfl, _, HST.out, hJx8⟩
    | false =>
      have HX := Lib.hid hx
      gi_wp2_with fail
      refine ⟨fun _ h => (by cases h), ?_⟩
      gi_wp2_with fail
      refine ⟨KeepsFrom.refl _ _, Kp.refl _ _ _ _, ⟨⟨i1, i2⟩, i3, ?_⟩⟩
      rw [hnx.out, HX.out]
      simpa using i4
set_option maxHeartbeats 1000000 in
theorem but_c (f : Fi) (S : List Lk) (fv : Value) (id : Int) (w : World) (hS : Gives Tryz.prog w.heap.size 0 fireU fv encLk S w) :
    Calls Tryz.prog 113 #[siV f fv, .int .i64 id] w fun e w' => ∃ gv, e = .returned (siV f gv) ∧ Gives Tryz.prog w'.heap.size 0 fireU gv encLk (but1 S id) w' ∧ Below w.heap.size w w' := by
  obtain ⟨gf, lb, rfl, -⟩ : ∃ gf lb, fv = .func (.func gf) #[] lb ∧ True := by obtain ⟨gf, lb, h, _⟩ := hS; exact ⟨gf, lb, h, trivial⟩
  obtain ⟨q0, q1, q2, qs, qb⟩ := three_new w (.cells #[.int .i64 f.rise, .int .i64 f.fall, .int .i64 f.up, .int .i64 f.down, .func (.func gf) #[] lb] 114) (.cells #[.int .i64 id] 3) (.cells #[.int .i64 0, .int .i64 0, .int .i64 0, .int .i64 0, .nilFunc] 114)
  unfold siV
  go_enter Tryz.func113, Tryz.ntmps113
  have QS := Lib.hid qs
  clear qs
  have HR := Lib.hid (fun j : Nat => cell_setRow_same (((w.alloc (.cells #[.int .i64 f.rise, .int .i64 f.fall, .int .i64 f.up, .int .i64 f.down, .func (.func gf) #[] lb] 114)).alloc (.cells #[.int .i64 id] 3)).alloc (.cells #[.int .i64 0, .int .i64 0, .int .i64 0, .int .i64 0, .nilFunc] 114)) (w.heap.size + 1 + 1) j _ #[.int .i64 f.rise, .int .i64 f.fall, .int .i64 f.up, .int .i64 f.down, .func (.func 136) #[] #[.pointer (some ⟨w.heap.size, 0, none⟩), .pointer (some ⟨w.heap.size + 1, 0, none⟩)]] _ _ q2)
  have B4 := below_setRow qb (show w.heap.size ≤ w.heap.size + 1 + 1 by omega) #[.int .i64 f.rise, .int .i64 f.fall, .int .i64 f.up, .int .i64 f.down, .func (.func 136) #[] #[.pointer (some ⟨w.heap.size, 0, none⟩), .pointer (some ⟨w.heap.size + 1, 0, none⟩)]]
  have r0 := (setRow_other (((w.alloc (.cells #[.int .i64 f.rise, .int .i64 f.fall, .int .i64 f.up, .int .i64 f.down, .func (.func gf) #[] lb] 114)).alloc (.cells #[.int .i64 id] 3)).alloc (.cells #[.int .i64 0, .int .i64 0, .int .i64 0, .int .i64 0, .nilFunc] 114)) (w.heap.size + 1 + 1) w.heap.size #[.int .i64 f.rise, .int .i64 f.fall, .int .i64 f.up, .int .i64 f.down, .func (.func 136) #[] #[.pointer (some ⟨w.heap.size, 0, none⟩), .pointer (some ⟨w.heap.size + 1, 0, none⟩)]] (by omega)).trans q0
  have r1 := (setRow_other (((w.alloc (.cells #[.int .i64 f.rise, .int .i64 f.fall, .int .i64 f.up, .int .i64 f.down, .func (.func gf) #[] lb] 114)).alloc (.cells #[.int .i64 id] 3)).alloc (.cells #[.int .i64 0, .int .i64 0, .int .i64 0, .int .i64 0, .nilFunc] 114)) (w.heap.size + 1 + 1) (w.heap.size + 1) #[.int .i64 f.rise, .int .i64 f.fall, .int .i64 f.up, .int .i64 f.down, .func (.func 136) #[] #[.pointer (some ⟨w.heap.size, 0, none⟩), .pointer (some ⟨w.heap.size + 1, 0, none⟩)]] (by omega)).trans q1
  have zs : ((((w.alloc (.cells #[.int .i64 f.rise, .int .i64 f.fall, .int .i64 f.up, .int .i64 f.down, .func (.func gf) #[] lb] 114)).alloc (.cells #[.int .i64 id] 3)).alloc (.cells #[.int .i64 0, .int .i64 0, .int .i64 0, .int .i64 0, .nilFunc] 114)).setRow (w.heap.size + 1 + 1) #[.int .i64 f.rise, .int .i64 f.fall, .int .i64 f.up, .int .i64 f.down, .func (.func 136) #[] #[.pointer (some ⟨w.heap.size, 0, none⟩), .pointer (some ⟨w.heap.size + 1, 0, none⟩)]]).heap.size = w.heap.size + 1 + 1 + 1 := by rw [size_setRow]; exact QS.out
  have HG := Lib.hid (but_g (n₀ := w.heap.size + 1 + 1 + 1) (by omega) (by omega) (by omega) r0 r1 ((hS.later B4).more (by omega)))
  clear r0 r1 zs
  go_wp2_with (refine wpList_store_rowTo rfl 114 _ _ rfl rfl (w.heap.size + 1 + 1) #[.int .i64 f.rise, .int .i64 f.fall, .int .i64 f.up, .int .i64 f.down, .func (.func 136) #[] #[.pointer (some ⟨w.heap.size, 0, none⟩), .pointer (some ⟨w.heap.size + 1, 0, none⟩)]] rfl rfl 114 _ q2 (by kernel_rfl) rfl (by kernel_rfl) ?_)
  refine bodyPost_ret (v := .agg #[.int .i64 f.rise, .int .i64 f.fall, .int .i64 f.up, .int .i64 f.down, .func (.func 136) #[] #[.pointer (some ⟨w.heap.size, 0, none⟩), .pointer (some ⟨w.heap.size + 1, 0, none⟩)]]) ?_ rfl ⟨_, rfl, ?_, B4⟩
  · simp [results, Tryz.results113, go_sem, HR.out]
  · rw [size_setRow, QS.out]; exact HG.out
end Go.Proofs.YtjpoacffnpgjdaaGreat
/- What a spot has at least, and at most, by each look: the iterators of the program. -/
namespace Go.Proofs.YtjpoacffnpgjdaaGreat
open Go Go.RowKit Go.Shelf
attribute [local go_sem] Oper.semAt_some

def encE (x : Int × Int) : Array Value := #[.agg #[.int .i64 x.1, .int .i64 x.2]]
def lowP (f : Fi) (p : Spt) (x : Lk) : Int × Int := (lowV f p x, x.id)
def highP (f : Fi) (p : Spt) (x : Lk) : Int × Int := (highV f p x, x.id)
theorem map_step {α β : Type} {g : α → β} {pre S : List α} {x : α} {e : β} (h : pre ++ [x] <+: S) : pre.map g ++ [g x] <+: S.map g ++ [e] := by
  obtain ⟨t, rfl⟩ := h
  exact ⟨t.map g ++ [e], by simp⟩
set_option maxRecDepth 100000 in
set_option maxHeartbeats 4000000 in
theorem lows_g {w : World} {Bs Bp n₀ : Nat} {f : Fi} {fv : Value} {S : List Lk} {p : Spt} (hf : slopeB f = true) (hp : spotB p = true) (hS : ∀ x ∈ S, lookB x = true) (hb1 : Bs < n₀) (hb2 : Bp < n₀) (hn₀ : n₀ ≤ w.heap.size)
    (h0 : w.heap[Bs]? = some (.cells #[.int .i64 f.rise, .int .i64 f.fall, .int .i64 f.up, .int .i64 f.down, fv] 114)) (h1 : w.heap[Bp]? = some (.cells #[.int .i64 p.foot, .int .i64 p.hour] 26)) (hG : Gives Tryz.prog n₀ 0 fireU fv encLk S w) :
    Gives Tryz.prog n₀ 0 fireU (.func (.func 118) #[] #[.pointer (some ⟨Bs, 0, none⟩), .pointer (some ⟨Bp, 0, none⟩)]) encE (lowsL f S p) w := by
  refine ⟨_, _, rfl, enters_of Tryz.func118 (by kernel_rfl) rfl, fun l J Jx W hW oJ oJx hY hJ => ?_⟩
  obtain ⟨gf, lb, rfl, -⟩ : ∃ gf lb, fv = .func (.func gf) #[] lb ∧ True := by obtain ⟨gf, lb, h, _⟩ := hG; exact ⟨gf, lb, h, trivial⟩
  replace h0 := (hW.block _ (size_of_block h0)).trans h0
  replace h1 := (hW.block _ (size_of_block h1)).trans h1
  replace hG := hG.later hW
  replace hn₀ := Nat.le_trans hn₀ hW.size
  clear hW
  have c4 := Joins.cell_of_block h0 4
  have z0 := size_of_block h0
  show Calls _ _ #[.func (.yield l) #[] #[], .pointer (some ⟨Bs, 0, none⟩), .pointer (some ⟨Bp, 0, none⟩)] W _
  (refine (callsIn_wide (n := 9)).1 (callsIn_of_wp_marks Tryz.func118 rfl trivial ?_ rfl); simp only [Tryz.ntmps118, List.size_toArray, List.length_cons, List.length_nil, Nat.reduceAdd, Nat.reduceSub, Array.replicate_succ, Array.replicate_zero, List.push_toArray, List.append_toArray, List.nil_append, List.cons_append])
  gi_wp2_with fail
  have y0 := heap_alloc_new W (.cells #[.func (.yield l) #[] #[]] 172)
  have a1 := below_alloc W (.cells #[.func (.yield l) #[] #[]] 172)
  generalize W.alloc (.cells #[.func (.yield l) #[] #[]] 172) = W0 at y0 a1 ⊢
  have J0 := own_grown oJ hJ a1
  have q0 := (a1.block _ z0).trans h0
  have q1 := (a1.block _ (size_of_block h1)).trans h1
  have s1 := a1.size
  have zy := size_of_block y0
  clear c4
  refine wpIn_over (U := fireU) (n₀ := n₀) (B := 0) (hG.later a1) rfl (fun _ => rfl) (by omega)
    (fun pre W' => (W'.heap[W.heap.size]? = some (.cells #[.func (.yield l) #[] #[]] 172) ∧ W'.heap[Bs]? = some (.cells #[.int .i64 f.rise, .int .i64 f.fall, .int .i64 f.up, .int .i64 f.down, .func (.func gf) #[] lb] 114)) ∧ W'.heap[Bp]? = some (.cells #[.int .i64 p.foot, .int .i64 p.hour] 26) ∧ J (pre.map (lowP f p)) W')
    (fun c _ W' => c = .ret ∧ ∃ q, q <+: lowsL f S p ∧ Jx q W')
    (((own_cells _ _ _ fun _ => rfl).and (own_cells _ _ _ fun _ => rfl)).and ((own_cells _ _ _ fun _ => rfl).and (own_comp (ownUp oJ (by omega)) _)))
    (fun c s X Y row hs hg hrow => ⟨hs.1, hs.2.elim fun q hq => ⟨q, hq.1, ownUp oJx (by omega) q X Y row hq.2 hg hrow⟩⟩) ⟨⟨y0, q0⟩, q1, J0⟩
    (fun x a' W' => ∃ Bx, W.heap.size ≤ Bx ∧ W'.heap[Bx]? = some (.cells #[.int .i64 x.id, .int .i64 x.foot, .int .i64 x.hour, .int .i64 x.lo, .int .i64 x.hi] 90) ∧ a' = { tmps := #[.func (.yield l) #[] #[], .pointer (some ⟨Bs, 0, none⟩), .pointer (some ⟨Bp, 0, none⟩), .pointer (some ⟨W.heap.size, 0, none⟩), .pointer (some ⟨Bx, 0, none⟩), .pointer (some ⟨Bs, 4, none⟩), .func (.func gf) #[] lb, .agg #[.int .i64 x.id, .int .i64 x.foot, .int .i64 x.hour, .int .i64 x.lo, .int .i64 x.hi], undef, undef, undef, undef, undef, undef, undef, undef, undef, undef, undef, undef, undef, undef, undef, undef, undef, undef, undef], defers := [] })
    (fun x a' s X Y row hs hg hrow => by
      obtain ⟨Bx, h1, h2, h3⟩ := hs
      exact ⟨Bx, h1, own_cells (β := Unit) W0.heap.size Bx (fun _ => .cells #[.int .i64 x.id, .int .i64 x.foot, .int .i64 x.hour, .int .i64 x.lo, .int .i64 x.hi] 90) (fun _ => rfl) s X Y row h2 hg hrow, h3⟩) ?assign ?body ?done ?stop
  case assign =>
    rintro l2 pre x W' K hl ⟨⟨i1, i2⟩, i3, i4⟩ hp hK
    unfold encLk lkV
    gi_wp2
    have ha := below_alloc W' (.cells #[.int .i64 x.id, .int .i64 x.foot, .int .i64 x.hour, .int .i64 x.lo, .int .i64 x.hi] 90)
    have := size_of_block i1
    exact hK _ _ (keeps_of_below ha) (Kp.of_below ha (by omega)) ⟨⟨(ha.block _ (size_of_block i1)).trans i1, (ha.block _ (size_of_block i2)).trans i2⟩, (ha.block _ (size_of_block i3)).trans i3, own_grown oJ i4 ha⟩ ⟨W'.heap.size, by omega, heap_alloc_new _ _, rfl⟩
  case done =>
    rintro D W' hD ⟨⟨i1, i2⟩, i3, i4⟩ hK
    have y0 := Joins.cell_of_block i1 0
    have hlast : S.map (lowP f p) ++ [(0, 0)] <+: lowsL f S p := ⟨[], by rw [List.append_nil]; rfl⟩
    obtain ⟨fn, tmps, assign, body, hyy, hR⟩ := hY _ (0, 0) W' i4 hlast
    unfold encE at hyy
    dsimp only at hyy
    gi_wp2_with fail
    refine (round_any hR).mono ?_
    rintro e W8 (⟨rfl, hJ8, hk8, hf8⟩ | ⟨rfl, hJx8, hf8⟩)
    · have hK8 := hf8.same D _ (by omega) hK rfl
      gi_wp2_with fail
      refine ⟨by simp, .inl ⟨_, _, rfl, run_takeDeferred hK8, ?_⟩⟩
      exact ⟨_, results_none rfl _ _ _, ⟨_, rfl⟩, .inl ((ownUp oJ s1).putObj _ hJ8 hD hK8 rfl)⟩
    · have hK8 := hf8.same D _ (by omega) hK rfl
      gi_wp2_with fail
      refine ⟨by simp, .inl ⟨_, _, rfl, run_takeDeferred hK8, ?_⟩⟩
      exact ⟨_, results_none rfl _ _ _, ⟨_, rfl⟩, .inr ⟨_, hlast, (ownUp oJx s1).putObj _ hJx8 hD hK8 rfl⟩⟩
  case stop =>
    rintro D c pre W' hD hp ⟨rfl, q, hq1, hq2⟩ hK
    gi_wp2
    refine ⟨by simp, .inl ⟨_, _, rfl, run_takeDeferred hK, ?_⟩⟩
    exact ⟨_, results_none rfl _ _ _, ⟨_, rfl⟩, .inr ⟨q, hq1, (ownUp oJx s1).putObj _ hq2 hD hK rfl⟩⟩
  case body =>
    rintro l2 pre x a' W1 hl ⟨rc, hrc⟩ ⟨⟨i1, i2⟩, i3, i4⟩ ⟨Bx, hBx, xB, rfl⟩ hpx
    have hx := hS x (hpx.subset (by simp))
    have y0 := Joins.cell_of_block i1 0
    have s0 := Joins.cell_of_block i2 0
    have s1' := Joins.cell_of_block i2 1
    have s2 := Joins.cell_of_block i2 2
    have s3 := Joins.cell_of_block i2 3
    have p0 := Joins.cell_of_block i3 0
    have p1 := Joins.cell_of_block i3 1
    have x0 := Joins.cell_of_block xB 0
    have x1 := Joins.cell_of_block xB 1
    have x2 := Joins.cell_of_block xB 2
    have x3 := Joins.cell_of_block xB 3
    have x4 := Joins.cell_of_block xB 4
    obtain ⟨_, a2, a3, a4, a5⟩ := look_iff.1 hx
    have fb := far_bounds hf hp a2
    have hC := fun W => far_c f p x.at_ W hf hp a2
    have HE : Hid (lowP f p x = (x.lo - farI f p x.at_, x.id)) := rfl
    generalize farI f p x.at_ = d at fb hC HE
    unfold slV sV Lk.at_ at hC
    have zB := size_of_block i2
    have zp := size_of_block i3
    have zx := size_of_block xB
    have zY := size_of_block i1
    have hst : pre.map (lowP f p) ++ [(x.lo - d, x.id)] <+: lowsL f S p := by rw [← HE.out]; exact map_step hpx
    have HST := Lib.hid hst
    have HN : Hid ((pre ++ [x]).map (lowP f p) = pre.map (lowP f p) ++ [(x.lo - d, x.id)]) := by show _ = _; rw [List.map_append, ← HE.out]; rfl
    clear hst
    gi_wp2_with fail
    refine wpIn_region_grown_tail (r := some l2) 14 (by kernel_rfl) (by kernel_rfl) fun hcg => ?_
    simp only [List.take_succ_cons, List.take_zero, List.drop_succ_cons, List.drop_zero]
    repeat (go_big_quiet_step ((go_at_call 57; exact Calls.grown (hC _))))
    refine wpQuiet_nil ?_
    intro _ hw'
    obtain ⟨g, hw''⟩ := hw'
    subst hw''
    obtain ⟨fn, tmps, assign, body, hyy, hR⟩ := yield_any (r := some l2) (m' := 6) (hY _ (x.lo - d, x.id) g.val (own_grown oJ i4 g.b) HST.out)
    have j1 := (g.b.block _ zY).trans i1
    have j2 := (g.b.block _ zB).trans i2
    have j3 := (g.b.block _ zp).trans i3
    have gs := g.b.size
    unfold encE at hyy
    dsimp only at hyy
    gi_wp2_with fail
    refine hR.mono ?_
    rintro e W8 (⟨rfl, hJ8, hk8, hf8⟩ | ⟨rfl, hJx8, hf8⟩)
    · gi_wp2_with fail
      refine ⟨(keeps_of_below g.b).trans (keepsFrom_up hf8 (by omega)), (Kp.of_below g.b (by omega)).trans hk8, ⟨⟨hk8.t _ _ _ _ (Nat.zero_le _) j1 (by simp), (hk8.b.block _ hb1).trans j2⟩, (hk8.b.block _ hb2).trans j3, ?_⟩⟩
      rw [HN.out]
      exact hJ8
    · gi_wp2_with fail
      exact ⟨(keeps_of_below g.b).trans (keepsFrom_up hf8 (by omega)), rfl, _, HST.out, hJx8⟩
set_option maxRecDepth 100000 in
set_option maxHeartbeats 4000000 in
theorem highs_g {w : World} {Bs Bp n₀ : Nat} {f : Fi} {fv : Value} {S : List Lk} {p : Spt} (hf : slopeB f = true) (hp : spotB p = true) (hS : ∀ x ∈ S, lookB x = true) (hb1 : Bs < n₀) (hb2 : Bp < n₀) (hn₀ : n₀ ≤ w.heap.size)
    (h0 : w.heap[Bs]? = some (.cells #[.int .i64 f.rise, .int .i64 f.fall, .int .i64 f.up, .int .i64 f.down, fv] 114)) (h1 : w.heap[Bp]? = some (.cells #[.int .i64 p.foot, .int .i64 p.hour] 26)) (hG : Gives Tryz.prog n₀ 0 fireU fv encLk S w) :
    Gives Tryz.prog n₀ 0 fireU (.func (.func 119) #[] #[.pointer (some ⟨Bs, 0, none⟩), .pointer (some ⟨Bp, 0, none⟩)]) encE (highsL f S p) w := by
  refine ⟨_, _, rfl, enters_of Tryz.func119 (by kernel_rfl) rfl, fun l J Jx W hW oJ oJx hY hJ => ?_⟩
  obtain ⟨gf, lb, rfl, -⟩ : ∃ gf lb, fv = .func (.func gf) #[] lb ∧ True := by obtain ⟨gf, lb, h, _⟩ := hG; exact ⟨gf, lb, h, trivial⟩
  replace h0 := (hW.block _ (size_of_block h0)).trans h0
  replace h1 := (hW.block _ (size_of_block h1)).trans h1
  replace hG := hG.later hW
  replace hn₀ := Nat.le_trans hn₀ hW.size
  clear hW
  have c4 := Joins.cell_of_block h0 4
  have z0 := size_of_block h0
  show Calls _ _ #[.func (.yield l) #[] #[], .pointer (some ⟨Bs, 0, none⟩), .pointer (some ⟨Bp, 0, none⟩)] W _
  (refine (callsIn_wide (n := 9)).1 (callsIn_of_wp_marks Tryz.func119 rfl trivial ?_ rfl); simp only [Tryz.ntmps119, List.size_toArray, List.length_cons, List.length_nil, Nat.reduceAdd, Nat.reduceSub, Array.replicate_succ, Array.replicate_zero, List.push_toArray, List.append_toArray, List.nil_append, List.cons_append])
  gi_wp2_with fail
  have y0 := heap_alloc_new W (.cells #[.func (.yield l) #[] #[]] 172)
  have a1 := below_alloc W (.cells #[.func (.yield l) #[] #[]] 172)
  generalize W.alloc (.cells #[.func (.yield l) #[] #[]] 172) = W0 at y0 a1 ⊢
  have J0 := own_grown oJ hJ a1
  have q0 := (a1.block _ z0).trans h0
  have q1 := (a1.block _ (size_of_block h1)).trans h1
  have s1 := a1.size
  have zy := size_of_block y0
  clear c4
  refine wpIn_over (U := fireU) (n₀ := n₀) (B := 0) (hG.later a1) rfl (fun _ => rfl) (by omega)
    (fun pre W' => (W'.heap[W.heap.size]? = some (.cells #[.func (.yield l) #[] #[]] 172) ∧ W'.heap[Bs]? = some (.cells #[.int .i64 f.rise, .int .i64 f.fall, .int .i64 f.up, .int .i64 f.down, .func (.func gf) #[] lb] 114)) ∧ W'.heap[Bp]? = some (.cells #[.int .i64 p.foot, .int .i64 p.hour] 26) ∧ J (pre.map (highP f p)) W')
    (fun c _ W' => c = .ret ∧ ∃ q, q <+: highsL f S p ∧ Jx q W')
    (((own_cells _ _ _ fun _ => rfl).and (own_cells _ _ _ fun _ => rfl)).and ((own_cells _ _ _ fun _ => rfl).and (own_comp (ownUp oJ (by omega)) _)))
    (fun c s X Y row hs hg hrow => ⟨hs.1, hs.2.elim fun q hq => ⟨q, hq.1, ownUp oJx (by omega) q X Y row hq.2 hg hrow⟩⟩) ⟨⟨y0, q0⟩, q1, J0⟩
    (fun x a' W' => ∃ Bx, W.heap.size ≤ Bx ∧ W'.heap[Bx]? = some (.cells #[.int .i64 x.id, .int .i64 x.foot, .int .i64 x.hour, .int .i64 x.lo, .int .i64 x.hi] 90) ∧ a' = { tmps := #[.func (.yield l) #[] #[], .pointer (some ⟨Bs, 0, none⟩), .pointer (some ⟨Bp, 0, none⟩), .pointer (some ⟨W.heap.size, 0, none⟩), .pointer (some ⟨Bx, 0, none⟩), .pointer (some ⟨Bs, 4, none⟩), .func (.func gf) #[] lb, .agg #[.int .i64 x.id, .int .i64 x.foot, .int .i64 x.hour, .int .i64 x.lo, .int .i64 x.hi], undef, undef, undef, undef, undef, undef, undef, undef, undef, undef, undef, undef, undef, undef, undef, undef, undef, undef, undef], defers := [] })
    (fun x a' s X Y row hs hg hrow => by
      obtain ⟨Bx, h1, h2, h3⟩ := hs
      exact ⟨Bx, h1, own_cells (β := Unit) W0.heap.size Bx (fun _ => .cells #[.int .i64 x.id, .int .i64 x.foot, .int .i64 x.hour, .int .i64 x.lo, .int .i64 x.hi] 90) (fun _ => rfl) s X Y row h2 hg hrow, h3⟩) ?assign ?body ?done ?stop
  case assign =>
    rintro l2 pre x W' K hl ⟨⟨i1, i2⟩, i3, i4⟩ hp hK
    unfold encLk lkV
    gi_wp2
    have ha := below_alloc W' (.cells #[.int .i64 x.id, .int .i64 x.foot, .int .i64 x.hour, .int .i64 x.lo, .int .i64 x.hi] 90)
    have := size_of_block i1
    exact hK _ _ (keeps_of_below ha) (Kp.of_below ha (by omega)) ⟨⟨(ha.block _ (size_of_block i1)).trans i1, (ha.block _ (size_of_block i2)).trans i2⟩, (ha.block _ (size_of_block i3)).trans i3, own_grown oJ i4 ha⟩ ⟨W'.heap.size, by omega, heap_alloc_new _ _, rfl⟩
  case done =>
    rintro D W' hD ⟨⟨i1, i2⟩, i3, i4⟩ hK
    have y0 := Joins.cell_of_block i1 0
    have hlast : S.map (highP f p) ++ [(1500, 0)] <+: highsL f S p := ⟨[], by rw [List.append_nil]; rfl⟩
    obtain ⟨fn, tmps, assign, body, hyy, hR⟩ := hY _ (1500, 0) W' i4 hlast
    unfold encE at hyy
    dsimp only at hyy
    gi_wp2_with fail
    refine (round_any hR).mono ?_
    rintro e W8 (⟨rfl, hJ8, hk8, hf8⟩ | ⟨rfl, hJx8, hf8⟩)
    · have hK8 := hf8.same D _ (by omega) hK rfl
      gi_wp2_with fail
      refine ⟨by simp, .inl ⟨_, _, rfl, run_takeDeferred hK8, ?_⟩⟩
      exact ⟨_, results_none rfl _ _ _, ⟨_, rfl⟩, .inl ((ownUp oJ s1).putObj _ hJ8 hD hK8 rfl)⟩
    · have hK8 := hf8.same D _ (by omega) hK rfl
      gi_wp2_with fail
      refine ⟨by simp, .inl ⟨_, _, rfl, run_takeDeferred hK8, ?_⟩⟩
      exact ⟨_, results_none rfl _ _ _, ⟨_, rfl⟩, .inr ⟨_, hlast, (ownUp oJx s1).putObj _ hJx8 hD hK8 rfl⟩⟩
  case stop =>
    rintro D c pre W' hD hp ⟨rfl, q, hq1, hq2⟩ hK
    gi_wp2
    refine ⟨by simp, .inl ⟨_, _, rfl, run_takeDeferred hK, ?_⟩⟩
    exact ⟨_, results_none rfl _ _ _, ⟨_, rfl⟩, .inr ⟨q, hq1, (ownUp oJx s1).putObj _ hq2 hD hK rfl⟩⟩
  case body =>
    rintro l2 pre x a' W1 hl ⟨rc, hrc⟩ ⟨⟨i1, i2⟩, i3, i4⟩ ⟨Bx, hBx, xB, rfl⟩ hpx
    have hx := hS x (hpx.subset (by simp))
    have y0 := Joins.cell_of_block i1 0
    have s0 := Joins.cell_of_block i2 0
    have s1' := Joins.cell_of_block i2 1
    have s2 := Joins.cell_of_block i2 2
    have s3 := Joins.cell_of_block i2 3
    have p0 := Joins.cell_of_block i3 0
    have p1 := Joins.cell_of_block i3 1
    have x0 := Joins.cell_of_block xB 0
    have x1 := Joins.cell_of_block xB 1
    have x2 := Joins.cell_of_block xB 2
    have x3 := Joins.cell_of_block xB 3
    have x4 := Joins.cell_of_block xB 4
    obtain ⟨_, a2, a3, a4, a5⟩ := look_iff.1 hx
    have fb := far_bounds hf a2 hp
    have hC := fun W => far_c f x.at_ p W hf a2 hp
    have HE : Hid (highP f p x = (x.hi + farI f x.at_ p, x.id)) := rfl
    generalize farI f x.at_ p = d at fb hC HE
    unfold slV sV Lk.at_ at hC
    have zB := size_of_block i2
    have zp := size_of_block i3
    have zx := size_of_block xB
    have zY := size_of_block i1
    have hst : pre.map (highP f p) ++ [(x.hi + d, x.id)] <+: highsL f S p := by rw [← HE.out]; exact map_step hpx
    have HST := Lib.hid hst
    have HN : Hid ((pre ++ [x]).map (highP f p) = pre.map (highP f p) ++ [(x.hi + d, x.id)]) := by show _ = _; rw [List.map_append, ← HE.out]; rfl
    clear hst
    gi_wp2_with fail
    refine wpIn_region_grown_tail (r := some l2) 14 (by kernel_rfl) (by kernel_rfl) fun hcg => ?_
    simp only [List.take_succ_cons, List.take_zero, List.drop_succ_cons, List.drop_zero]
    repeat (go_big_quiet_step ((go_at_call 57; exact Calls.grown (hC _))))
    refine wpQuiet_nil ?_
    intro _ hw'
    obtain ⟨g, hw''⟩ := hw'
    subst hw''
    obtain ⟨fn, tmps, assign, body, hyy, hR⟩ := yield_any (r := some l2) (m' := 6) (hY _ (x.hi + d, x.id) g.val (own_grown oJ i4 g.b) HST.out)
    have j1 := (g.b.block _ zY).trans i1
    have j2 := (g.b.block _ zB).trans i2
    have j3 := (g.b.block _ zp).trans i3
    have gs := g.b.size
    unfold encE at hyy
    dsimp only at hyy
    gi_wp2_with fail
    refine hR.mono ?_
    rintro e W8 (⟨rfl, hJ8, hk8, hf8⟩ | ⟨rfl, hJx8, hf8⟩)
    · gi_wp2_with fail
      refine ⟨(keeps_of_below g.b).trans (keepsFrom_up hf8 (by omega)), (Kp.of_below g.b (by omega)).trans hk8, ⟨⟨hk8.t _ _ _ _ (Nat.zero_le _) j1 (by simp), (hk8.b.block _ hb1).trans j2⟩, (hk8.b.block _ hb2).trans j3, ?_⟩⟩
      rw [HN.out]
      exact hJ8
    · gi_wp2_with fail
      exact ⟨(keeps_of_below g.b).trans (keepsFrom_up hf8 (by omega)), rfl, _, HST.out, hJx8⟩
theorem lows_c (f : Fi) (S : List Lk) (fv : Value) (p : Spt) (w : World) (hf : slopeB f = true) (hp : spotB p = true) (hS : ∀ x ∈ S, lookB x = true) (hG : Gives Tryz.prog w.heap.size 0 fireU fv encLk S w) :
    Calls Tryz.prog 84 #[siV f fv, sV p] w fun e w' => ∃ gf lb, e = .returned (.func (.func gf) #[] lb) ∧ Gives Tryz.prog w'.heap.size 0 fireU (.func (.func gf) #[] lb) encE (lowsL f S p) w' ∧ Below w.heap.size w w' := by
  obtain ⟨gf, lb, rfl, -⟩ : ∃ gf lb, fv = .func (.func gf) #[] lb ∧ True := by obtain ⟨gf, lb, h, _⟩ := hG; exact ⟨gf, lb, h, trivial⟩
  obtain ⟨q0, q1, qs, qb⟩ := two_new' w (.cells #[.int .i64 f.rise, .int .i64 f.fall, .int .i64 f.up, .int .i64 f.down, .func (.func gf) #[] lb] 114) (.cells #[.int .i64 p.foot, .int .i64 p.hour] 26)
  have HG := lows_g (n₀ := w.heap.size + 1 + 1) hf hp hS (by omega) (by omega) (by omega) q0 q1 ((hG.later qb).more (by omega))
  unfold siV sV
  go_enter Tryz.func84, Tryz.ntmps84
  go_wp2_with fail
  go_ret
  exact ⟨_, _, rfl, by rw [qs]; exact HG, qb⟩
theorem highs_c (f : Fi) (S : List Lk) (fv : Value) (p : Spt) (w : World) (hf : slopeB f = true) (hp : spotB p = true) (hS : ∀ x ∈ S, lookB x = true) (hG : Gives Tryz.prog w.heap.size 0 fireU fv encLk S w) :
    Calls Tryz.prog 85 #[siV f fv, sV p] w fun e w' => ∃ gf lb, e = .returned (.func (.func gf) #[] lb) ∧ Gives Tryz.prog w'.heap.size 0 fireU (.func (.func gf) #[] lb) encE (highsL f S p) w' ∧ Below w.heap.size w w' := by
  obtain ⟨gf, lb, rfl, -⟩ : ∃ gf lb, fv = .func (.func gf) #[] lb ∧ True := by obtain ⟨gf, lb, h, _⟩ := hG; exact ⟨gf, lb, h, trivial⟩
  obtain ⟨q0, q1, qs, qb⟩ := two_new' w (.cells #[.int .i64 f.rise, .int .i64 f.fall, .int .i64 f.up, .int .i64 f.down, .func (.func gf) #[] lb] 114) (.cells #[.int .i64 p.foot, .int .i64 p.hour] 26)
  have HG := highs_g (n₀ := w.heap.size + 1 + 1) hf hp hS (by omega) (by omega) (by omega) q0 q1 ((hG.later qb).more (by omega))
  unfold siV sV
  go_enter Tryz.func85, Tryz.ntmps85
  go_wp2_with fail
  go_ret
  exact ⟨_, _, rfl, by rw [qs]; exact HG, qb⟩
end Go.Proofs.YtjpoacffnpgjdaaGreat
/- The looks without each of which alone something holds: sight.alone, by the program. -/
namespace Go.Proofs.YtjpoacffnpgjdaaGreat
open Go Go.RowKit Go.Shelf
attribute [local go_sem] Oper.semAt_some Rel RelAt RelUpon

/-- The function value v tells, of what is known without a look, whether something holds. -/
def TellsS (P : Program) (v : Value) (f : Fi) (S : List Lk) (B : Int → Bool) (w : World) : Prop :=
  ∃ (gh : Nat) (lh : Array Value), v = .func (.func gh) #[] lh ∧ (∀ args w, (callFunc gh args).run P w = .ok (.enter gh args) w) ∧
    ∀ x ∈ S, ∀ (W : World) (g : Nat) (lg : Array Value), Below w.heap.size w W → Gives P W.heap.size 0 fireU (.func (.func g) #[] lg) encLk (but1 S x.id) W →
      Calls P gh (#[siV f (.func (.func g) #[] lg)] ++ lh) W fun e W' => e = .returned (.bool (B x.id)) ∧ Below W.heap.size W W'
def onL (B : Int → Bool) (l : List Lk) : List Int := (l.filter fun x => B x.id).map Lk.id
theorem onL_snoc (B : Int → Bool) (l : List Lk) (x : Lk) : onL B (l ++ [x]) = onL B l ++ (if B x.id then [x.id] else []) := by
  unfold onL; rw [List.filter_append, List.map_append]; congr 1; cases h : B x.id <;> simp [h]
theorem onL_len (B : Int → Bool) (l : List Lk) : (onL B l).length ≤ l.length := by
  unfold onL; rw [List.length_map]; exact List.length_filter_le _ _
theorem Tryz.infoIntG : (Tryz.prog.info? 3).map (fun i => (i.zero, i.size, i.bytes)) = some (some (.int .i64 0), 1, 8) := by kernel_rfl
set_option maxRecDepth 100000 in
set_option maxHeartbeats 4000000 in
theorem alone_c (f : Fi) (S : List Lk) (gf : Nat) (lb : Array Value) (hv : Value) (B : Int → Bool) (w : World) (hG : Gives Tryz.prog w.heap.size 0 fireU (.func (.func gf) #[] lb) encLk S w) (hT : TellsS Tryz.prog hv f S B w) (hlen : S.length ≤ 5000) :
    Calls Tryz.prog 64 #[siV f (.func (.func gf) #[] lb), hv] w fun e w' => ∃ u, e = .returned u ∧ w'.ownsRow w.heap.size 3 1 u (onL B S).length ((onL B S).map (Value.int .i64)) ∧ Below w.heap.size w w' := by
  obtain ⟨gh, lh, rfl, eh, hT⟩ := hT
  obtain ⟨ti, hi, hz0, hz1, hz2⟩ := info_parts Tryz.infoIntG
  have HI := Lib.hid hi
  have HI0 := Lib.hid hz0
  have HI1 := Lib.hid hz1
  have HI2 := Lib.hid hz2
  clear hi hz0 hz1 hz2
  have HT := Lib.hid hT
  clear hT
  obtain ⟨q0, q1, q2, qs, qb⟩ := three_new w (.cells #[.int .i64 f.rise, .int .i64 f.fall, .int .i64 f.up, .int .i64 f.down, .func (.func gf) #[] lb] 114) (.cells #[.func (.func gh) #[] lh] 119) (.cells #[.slice none 0 0] 27)
  unfold siV
  (refine (callsIn_wide (n := 9)).1 (callsIn_of_wp_marks Tryz.func64 rfl trivial ?_ rfl); simp only [Tryz.ntmps64, List.size_toArray, List.length_cons, List.length_nil, Nat.reduceAdd, Nat.reduceSub, Array.replicate_succ, Array.replicate_zero, List.push_toArray, List.append_toArray, List.nil_append, List.cons_append])
  gi_wp2_with fail
  have QS := Lib.hid qs
  clear qs
  generalize ((w.alloc _).alloc _).alloc _ = W0 at q0 q1 q2 QS qb ⊢
  have s4 := Joins.cell_of_block q0 4
  have z0 := size_of_block q0
  gi_wp2_with fail
  clear s4
  have hzw := qb.size
  refine wpIn_over (U := fireU) (n₀ := w.heap.size) (B := 0) (hG.later qb) rfl (fun _ => rfl) (by omega)
    (fun pre W' => ((W'.heap[w.heap.size]? = some (.cells #[.int .i64 f.rise, .int .i64 f.fall, .int .i64 f.up, .int .i64 f.down, .func (.func gf) #[] lb] 114) ∧ W'.heap[w.heap.size + 1]? = some (.cells #[.func (.func gh) #[] lh] 119)) ∧
      (∃ v, Go.Boxed W' (w.heap.size + 1 + 1) 27 v ∧ W'.ownsRow w.heap.size 3 1 v (onL B pre).length ((onL B pre).map (Value.int .i64)) ∧ True)) ∧ Below w.heap.size w W')
    (fun _ _ _ => False)
    ((((own_cells _ _ _ fun _ => rfl).and (own_cells _ _ _ fun _ => rfl)).and (Own.from (holdsRow_own _ _ _ _ _ _ _ (fun _ _ => True)) _)).and (ownFrom_below (Nat.le_refl _) (by omega)))
    (fun _ _ _ _ _ hs _ _ => hs) ⟨⟨⟨q0, q1⟩, _, q2, World.ownsRow_nil _ _ _ _, trivial⟩, qb⟩
    (fun x a' W' => ∃ Bx, w.heap.size + 1 + 1 + 1 ≤ Bx ∧ W'.heap[Bx]? = some (.cells #[.int .i64 x.id, .int .i64 x.foot, .int .i64 x.hour, .int .i64 x.lo, .int .i64 x.hi] 90) ∧ a' = { tmps := #[.agg #[.int .i64 f.rise, .int .i64 f.fall, .int .i64 f.up, .int .i64 f.down, .func (.func gf) #[] lb], .func (.func gh) #[] lh, .pointer (some ⟨w.heap.size, 0, none⟩), .pointer (some ⟨w.heap.size + 1, 0, none⟩), .slice none 0 0, .pointer (some ⟨w.heap.size + 1 + 1, 0, none⟩), .pointer (some ⟨Bx, 0, none⟩), .pointer (some ⟨w.heap.size, 4, none⟩), .func (.func gf) #[] lb, .agg #[.int .i64 x.id, .int .i64 x.foot, .int .i64 x.hour, .int .i64 x.lo, .int .i64 x.hi], undef, undef, undef, undef, undef, undef, undef, undef, undef, undef, undef, undef], defers := [] })
    (fun x a' s X Y row hs hg hrow => by
      obtain ⟨Bx, h1, h2, h3⟩ := hs
      exact ⟨Bx, h1, own_cells (β := Unit) W0.heap.size Bx (fun _ => .cells #[.int .i64 x.id, .int .i64 x.foot, .int .i64 x.hour, .int .i64 x.lo, .int .i64 x.hi] 90) (fun _ => rfl) s X Y row h2 hg hrow, h3⟩) ?assign ?body ?done ?stop
  case assign =>
    rintro l pre x W' K hl ⟨⟨⟨i0, i1⟩, v, i2, i3, _⟩, i4⟩ hp hK
    unfold encLk lkV
    gi_wp2
    have ha := below_alloc W' (.cells #[.int .i64 x.id, .int .i64 x.foot, .int .i64 x.hour, .int .i64 x.lo, .int .i64 x.hi] 90)
    have hz := i2.lt
    have hsz := i4.size
    exact hK _ _ (keeps_of_below ha) (Kp.of_below ha (by omega)) ⟨⟨⟨(ha.block _ (size_of_block i0)).trans i0, (ha.block _ (size_of_block i1)).trans i1⟩, v, i2.alloc _, own_later i3 ha, trivial⟩, below_then i4 ha⟩ ⟨W'.heap.size, by omega, heap_alloc_new _ _, rfl⟩
  case done =>
    rintro D W' hD ⟨⟨⟨i0, i1⟩, v, i2, i3, _⟩, i4⟩ hK
    have hc := i2.cell
    gi_wp2_with fail
    refine ⟨by simp, .inl ⟨_, _, rfl, run_takeDeferred hK, ?_⟩⟩
    exact ⟨_, results_tmp rfl _ _ _, _, rfl, ownsRow_putObj i3 _ hK rfl, i4.trans (belowK_b (w := w) (Nat.le_refl _) _ D _ _ (by omega) hK rfl rfl)⟩
  case stop =>
    intro D c pre W' _ _ h _
    exact h.elim
  case body =>
    rintro l pre x a' W1 hl hrc ⟨⟨⟨i0, i1⟩, v, i2, i3, _⟩, i4⟩ ⟨Bx, hBx, xB, rfl⟩ hp
    have s0 := Joins.cell_of_block i0 0
    have s1 := Joins.cell_of_block i0 1
    have s2 := Joins.cell_of_block i0 2
    have s3 := Joins.cell_of_block i0 3
    have s4 := Joins.cell_of_block i0 4
    have t0 := Joins.cell_of_block i1 0
    have x0 := Joins.cell_of_block xB 0
    have z0 := size_of_block i0
    have z1 := size_of_block i1
    have zx := size_of_block xB
    have hw1 := i4.size
    have hxS : x ∈ S := hp.subset (by simp)
    have hpl := Lib.hid (by have := hp.length_le; simp only [List.length_append, List.length_cons, List.length_nil] at this; have := onL_len B pre; omega : (onL B pre).length + 1 ≤ 5000)
    have HN := Lib.hid (onL_snoc B pre x)
    obtain ⟨bx, hbx⟩ : ∃ b, b = B x.id := ⟨_, rfl⟩
    rw [← hbx] at HN
    have HB := Lib.hid hbx
    clear hbx
    gi_wp2_with fail
    refine wpIn_region_picked_quiet (r := some l) [0, 1, 2, 3] [4, 5] [] (by kernel_rfl) (by kernel_rfl) fun hcg => ?_
    simp only [pick, List.filterMap_cons, List.filterMap_nil, List.getElem?_toArray, List.getElem?_cons_succ, List.getElem?_cons_zero]
    iterate 4 (refine wpRel_step (fun K hK => ?_); go_simp; refine hK _ ?_; clear hK K)
    refine wpRel_nil fun g => ?_
    have G1 := g.b
    have c4 := below_then i4 G1
    have hG2 := (hG.later c4).more c4.size
    clear hcg s0 s1 s2 s3 s4 t0 x0
    have hbut := but_c f S (.func (.func gf) #[] lb) x.id g.val hG2
    unfold siV at hbut
    refine ⟨rfl, ?_⟩
    go_simp
    refine ⟨trivial, calls_any (r := some l) (hbut.mono ?_)⟩
    rintro e V1 ⟨gv, rfl, hgv, hb1⟩
    refine ⟨below_then G1 hb1, fun V2 hu2 => ?_⟩
    obtain ⟨gg, lg, rfl, -⟩ : ∃ gg lg, gv = .func (.func gg) #[] lg ∧ True := by obtain ⟨gg, lg, h, _⟩ := hgv; exact ⟨gg, lg, h, trivial⟩
    have G2 := below_then G1 (below_then hb1 hu2)
    have hh := HT.out x hxS V2 gg lg (below_then i4 G2) ((hgv.later hu2).more hu2.size)
    rw [← HB.out] at hh
    unfold siV at hh
    clear hbut hgv hb1 hu2
    refine ⟨rfl, ?_⟩
    go_simp
    refine ⟨trivial, calls_any (r := some l) (hh.mono ?_)⟩
    rintro e V3 ⟨rfl, hb3⟩
    refine ⟨below_then G2 hb3, fun V4 hu4 => ?_⟩
    have G4 := below_then G2 (below_then hb3 hu4)
    have j0 := (G4.block _ z0).trans i0
    have j1 := (G4.block _ z1).trans i1
    have jx := (G4.block _ zx).trans xB
    have j2 : Go.Boxed V4 (w.heap.size + 1 + 1) 27 v := (G4.block _ i2.lt).trans i2
    have j3 := own_later i3 G4
    have j4 := below_then i4 G4
    clear hh hb3 hu4 G2 i0 i1 i2 i3
    have hw4 := j4.size
    cases bx with
    | false =>
      show wpListIn _ _ _ _ _ _ _ _
      gi_wp2_with fail
      simp only [noPanic]
      gi_wp2_with fail
      refine ⟨keeps_of_below G4, Kp.of_below G4 (by omega), ⟨⟨j0, j1⟩, v, j2, ?_, trivial⟩, j4⟩
      rw [HN.out]
      simpa using j3
    | true =>
      have x0 := Joins.cell_of_block jx 0
      have x1 := Joins.cell_of_block jx 1
      have x2 := Joins.cell_of_block jx 2
      have x3 := Joins.cell_of_block jx 3
      have x4 := Joins.cell_of_block jx 4
      have hc := j2.cell
      have hz := j2.lt
      have hzx := size_of_block jx
      have GG := Lib.hid G4
      clear G4 G1
      show wpListIn _ _ _ _ _ _ _ _
      gi_wp2_with fail
      simp only [noPanic]
      gi_wp2_with (gi_at_builtin; refine wpListIn_append_own _ rfl _ _ 27 rfl w.heap.size 3 ti (.int .i64 0) 1 8 Tryz.underlying27 HI.out HI0.out HI1.out HI2.out rfl (by decide) _ _ _ rfl (own_later j3 (below_alloc _ _)) ⟨V4.heap.size, 0, none⟩ 1 1 [.int .i64 x.id] rfl rfl ?c1 ?c2 ?c3 ?c4 ?c5 ?_)
      case c1 => have := cells_new V4 [.int .i64 x.id] 3; simpa using this
      case c2 => exact one_oneCell rfl
      case c3 => have := hpl.out; unfold maxLen; omega
      case c4 => have := hpl.out; omega
      case c5 => simp; omega
      intro v' w1 hown' hgrow _
      obtain ⟨g', cap', rfl⟩ := ownsRow_succ hown'
      obtain ⟨hv1, hv2, hr2, hk2, hb2⟩ := Go.Boxed.appended j2 (by decide) j3 hw4 (by omega) hown' hgrow
      have hkp := Lib.hid (kp_appended (n₀ := w.heap.size) (B := 0) (U := fireU) j2 (by decide) j3 hw4 (by omega) hown' hgrow (Nat.le_refl _) (by simp) (by simp))
      have hc1 := hv1.cell
      have hf1 := hv1.frozen
      have k0 := (put_other (i := 0) (Value.slice (some ⟨g', 0, none⟩) ((onL B pre).length + 1) cap') (show w.heap.size ≠ w.heap.size + 1 + 1 by omega)).trans ((hgrow.block _ (by simp; omega) (Ne.symm (own_ne_block j3 j0 (by decide)))).trans ((Below.heap_alloc V4 _ _ (size_of_block j0)).trans j0))
      have k1 := (put_other (i := 0) (Value.slice (some ⟨g', 0, none⟩) ((onL B pre).length + 1) cap') (show w.heap.size + 1 ≠ w.heap.size + 1 + 1 by omega)).trans ((hgrow.block _ (by simp; omega) (Ne.symm (own_ne_block j3 j1 (by decide)))).trans ((Below.heap_alloc V4 _ _ (size_of_block j1)).trans j1))
      have HK2 := Lib.hid hk2
      have HB2 := Lib.hid hb2
      have HR2 := Lib.hid hr2
      clear hk2 hb2 hgrow hown' hr2
      gi_wp2_with fail
      refine ⟨(keeps_of_below GG.out).trans (HK2.out.from _), (Kp.of_below GG.out (by omega)).trans hkp.out, ⟨⟨k0, k1⟩, _, hv2, ?_, trivial⟩, j4.trans HB2.out⟩
      rw [HN.out]
      simpa using HR2.out
end Go.Proofs.YtjpoacffnpgjdaaGreat
