/- Texts joined: Iter. -/
import Derived.RangeFuncNested
import Derived.RangeFuncBound
import Derived.RangeFuncCalls
import Derived.RangeFuncLeaves
import Derived.Shelf.Abstract
import Derived.Shelf.RegionOpen
import Derived.OwnWalkIn
import Derived.TacticsInMore
import Derived.LoopNIn
import Derived.LoopIn
import Derived.Test.YtnedcclmfokdnaaGreatJ2
namespace Go.Proofs.YtnedcclmfokdnaaGreat
open Go Go.RowKit
structure Kp (n₀ B : Nat) (U : List TypeId) (W W' : World) : Prop where
  b : Below n₀ W W'
  t : ∀ (k : Nat) (cs : Array Value) (ty : TypeId) (fr : Nat × Nat), B ≤ k → W.heap[k]? = some (.cells cs ty fr) → ty ∈ U → W'.heap[k]? = some (.cells cs ty fr)
theorem Kp.refl (n₀ B : Nat) (U : List TypeId) (W : World) : Kp n₀ B U W W := ⟨Below.refl _ _, fun _ _ _ _ _ h _ => h⟩
theorem Kp.trans {n₀ B : Nat} {U : List TypeId} {X Y Z : World} (h : Kp n₀ B U X Y) (k : Kp n₀ B U Y Z) : Kp n₀ B U X Z := ⟨h.b.trans k.b, fun i cs ty fr hi hx hu => k.t i cs ty fr hi (h.t i cs ty fr hi hx hu) hu⟩
theorem Kp.of_below {n₀ B : Nat} {U : List TypeId} {W W' : World} (h : Below W.heap.size W W') (hn : n₀ ≤ W.heap.size) : Kp n₀ B U W W' :=
  ⟨h.mono hn, fun k _ _ _ _ hk _ => (h.block k (Array.getElem?_eq_some_iff.1 hk).1).trans hk⟩
theorem Kp.less {n₀ n₁ B B' : Nat} {U U' : List TypeId} {W W' : World} (h : Kp n₁ B' U' W W') (hn : n₀ ≤ n₁) (hB : B' ≤ B) (hU : ∀ t ∈ U, t ∈ U') : Kp n₀ B U W W' := ⟨h.b.mono hn, fun k cs ty fr hk hx hu => h.t k cs ty fr (Nat.le_trans hB hk) hx (hU _ hu)⟩
def Gives {α : Type} (P : Program) (n₀ B : Nat) (U : List TypeId) (v : Value) (encs : α → Array Value) (xs : List α) (w : World) : Prop :=
  ∃ (gf : Nat) (lb : Array Value), v = .func (.func gf) #[] lb ∧ (∀ args w, (callFunc gf args).run P w = .ok (.enter gf args) w) ∧
    ∀ (l : Nat) (J Jx : List α → World → Prop) (W : World), Below w.heap.size w W → OwnFrom W.heap.size J → OwnFrom W.heap.size Jx →
      (∀ pre x W1, J pre W1 → pre ++ [x] <+: xs → YieldAt Fence.wide 0 P l (encs x) W1 fun e W' =>
        (e = .returned (.bool true) ∧ J (pre ++ [x]) W' ∧ Kp n₀ B U W1 W' ∧ KeepsFrom W.heap.size W1 W') ∨ (e = .returned (.bool false) ∧ Jx (pre ++ [x]) W' ∧ KeepsFrom W.heap.size W1 W')) →
      J [] W →
      Calls P gf (#[.func (.yield l) #[] #[]] ++ lb) W fun e W' => (∃ u, e = .returned u) ∧ (J xs W' ∨ ∃ pre, pre <+: xs ∧ Jx pre W')
theorem Gives.later {α : Type} {P : Program} {n₀ B : Nat} {U : List TypeId} {v : Value} {encs : α → Array Value} {xs : List α} {w w' : World} (h : Gives P n₀ B U v encs xs w) (hb : Below w.heap.size w w') : Gives P n₀ B U v encs xs w' := by
  obtain ⟨gf, lb, e1, e2, hg⟩ := h
  exact ⟨gf, lb, e1, e2, fun l J Jx W hW => hg l J Jx W (below_then hb hW)⟩
theorem Gives.more {α : Type} {P : Program} {n₀ n₁ B : Nat} {U : List TypeId} {v : Value} {encs : α → Array Value} {xs : List α} {w : World} (h : Gives P n₀ B U v encs xs w) (hn : n₀ ≤ n₁) : Gives P n₁ B U v encs xs w := by
  obtain ⟨gf, lb, e1, e2, hg⟩ := h
  refine ⟨gf, lb, e1, e2, fun l J Jx W hW hJ hJx hY h0 => hg l J Jx W hW hJ hJx (fun pre x W1 hj hp => (hY pre x W1 hj hp).mono ?_) h0⟩
  rintro e W' (⟨a, b, c, d⟩ | h)
  · exact .inl ⟨a, b, c.less hn (Nat.le_refl _) (fun _ h => h), d⟩
  · exact .inr h
theorem ownUp {β : Type} {B B' : Nat} {I : β → World → Prop} (h : OwnFrom B I) (hB : B ≤ B') : OwnFrom B' I := fun s X Y row hs hg hr => h s X Y row hs hg fun r e => ⟨Nat.le_trans hB (hr r e).1, (hr r e).2⟩
theorem ownFrom_block {β : Type} {B r : Nat} (o : Obj) (hr : r < B) : OwnFrom B (fun (_ : β) W => W.heap[r]? = some o) := fun _ X Y row hs hg hrow =>
  (hg.block r (Array.getElem?_eq_some_iff.1 hs).1 (fun e => by have := (hrow r e.symm).1; omega)).trans hs
theorem keepsFrom_up {B B' : Nat} {W W' : World} (h : KeepsFrom B W W') (hB : B ≤ B') : KeepsFrom B' W W' := ⟨h.size, fun k o hk => h.same k o (Nat.le_trans hB hk)⟩
theorem round_any {m m' : Nat} {P : Program} {l : Nat} {f : FuncId} {tmps : Array Value} {assign body : Code} {w : World} {R : Ending → World → Prop} (h : RoundIn Fence.wide m P l f tmps assign body w R) : RoundIn Fence.wide m' P l f tmps assign body w R :=
  ⟨h.1, fun c cs _ => h.2 c cs (fun d hd => by cases hd)⟩
theorem yield_any {m m' : Nat} {r : Option Nat} {P : Program} {l : Nat} {args : Array Value} {W : World} {R : Ending → World → Prop} (h : YieldAt Fence.wide m P l args W R) : YieldAt { Fence.wide with round := r } m' P l args W R := by
  obtain ⟨fn, tmps, assign, body, hy, hR⟩ := h
  exact ⟨fn, tmps, assign, body, hy, (round_any hR : RoundIn Fence.wide m' P l fn tmps assign body W R)⟩
theorem calls_any {n : Nat} {r : Option Nat} {P : Program} {f : FuncId} {args : Array Value} {w : World} {R : Ending → World → Prop} (h : Calls P f args w R) : CallsIn { Fence.wide with round := r } n P f args w R :=
  (callsIn_wide.2 h : CallsIn Fence.wide n P f args w R)
theorem wpIn_over_core {α : Type} {P : Program} {r : Option Nat} {n : Nat} {g : Operand} {ps : Array Tmp} {assign body : Code} {Q : Exit → Act → World → Prop} {a : Act} {w : World}
    {encs : α → Array Value} {n₀ B : Nat} {U : List TypeId} {xs : List α} {v : Value} (hG : Gives P n₀ B U v encs xs w) (hg : a.eval g = v) (hps : ∀ x, (encs x).size = ps.size) (hn₀ : n₀ ≤ w.heap.size)
    (l D : Nat) (mark : List Deferred) (hl : w.heap.size ≤ l)
    (I : List α → World → Prop) (Ix : Code → List α → World → Prop) (hI : OwnFrom l I) (hIx : ∀ c, OwnFrom l (Ix c)) (Ax : α → Act → World → Prop) (hAx : ∀ x a', OwnFrom l (fun (_ : Unit) W => Ax x a' W))
    (hent : ∀ fn, ∃ W1, (Instr.enterLoop fn a.tmps ps assign body r).run P w = .ok (l, mark) W1 ∧ W1.heap[l]? = some (.loop { state := .ready, pending := none, fn, tmps := a.tmps, params := ps, assign, body, defers := D }) ∧ W1.heap.size = l + 1 ∧ Below w.heap.size w W1 ∧ I [] W1)
    (hassign : ∀ (pre : List α) (x : α) (W : World) (K : Act → World → Prop), I pre W → pre ++ [x] <+: xs → (∀ a' W', KeepsFrom w.heap.size W W' → Kp n₀ B U W W' → I pre W' → Ax x a' W' → K a' W') →
      assign.wpIn ({ Fence.wide with round := some l }) (n - 1 - 1) P (Exit.then K (fun _ _ _ => False)) { tmps := (ps.zip (encs x)).foldl (fun t (p, v) => t.setIfInBounds p v) a.tmps, defers := [] } W)
    (hbody : ∀ (pre : List α) (x : α) (a' : Act) (W : World), (∃ rc, W.heap[l]? = some (.loop rc)) → I pre W → Ax x a' W → pre ++ [x] <+: xs → body.wpIn ({ Fence.wide with round := some l }) (n - 1 - 1) P (ownPostG w.heap.size (Kp n₀ B U) I Ix (pre ++ [x]) W) a' W)
    (hdone : ∀ W, I xs W → Q .normal { a with defers := mark ++ a.defers } W)
    (hstop : ∀ c pre W, pre <+: xs → Ix c pre W → c.wpIn ({ Fence.wide with round := r }) n P Q { a with defers := mark ++ a.defers } W) :
    (Code.rangeFunc g ps assign body).wpIn ({ Fence.wide with round := r }) n P Q a w := by
  obtain ⟨gf, lb, rfl, eg, hseq⟩ := hG
  refine wpIn_rangeFunc fun fn hfn => ?_
  obtain ⟨W1, hen, hL, hsz, hb, hI1⟩ := hent fn
  obtain ⟨rec, hrec⟩ : ∃ rec : LoopState → Option Code → Loop, rec = fun st pe => { state := st, pending := pe, fn, tmps := a.tmps, params := ps, assign, body, defers := D } := ⟨_, rfl⟩
  replace hL : W1.heap[l]? = some (.loop (rec .ready none)) := by rw [hrec]; exact hL
  refine ⟨l, mark, W1, { target := .fn (.func gf) lb, args := #[.func (.yield l) #[] #[]] }, W1, gf, #[.func (.yield l) #[] #[]] ++ lb, W1, hen, ?_, fun _ _ => trivial, ?_, fun h => by simp [Fence.wide] at h, ?_⟩
  · simp only [resolve, hg]; simp [go_sem]
  · simp [invoke, go_sem, eg]
  have turn : ∀ {W : World} {rc : Loop} (o' : Obj), W.heap[l]? = some (.loop rc) → Kp n₀ B U W (W.putObj l o') := fun {W rc} o' h =>
    have hlt := (Array.getElem?_eq_some_iff.1 h).1
    ⟨(Below.refl n₀ W).grown (grownBy_putObj' W l o') (by omega) (fun k e => by cases e; omega),
     fun k cs ty fr _ hx _ => by
      by_cases e : k = l
      · subst e; rw [h] at hx; cases hx
      · exact (World.putObj_heap_other (by omega)).trans hx⟩
  have keeps : ∀ {W : World} (o' : Obj), KeepsFrom (l + 1) W (W.putObj l o') := fun o' => ⟨by simp, fun k o hk h _ => (World.putObj_heap_other (by omega)).trans h⟩
  have J1 : OwnFrom W1.heap.size (fun pre W => I pre W ∧ W.heap[l]? = some (.loop (rec .ready none))) := by
    rw [hsz]; exact (ownUp hI (by omega)).and (ownFrom_block _ (by omega))
  have J2 : OwnFrom W1.heap.size (fun pre W => ∃ c, Ix c pre W ∧ W.heap[l]? = some (.loop (rec .done (some c)))) := by
    rw [hsz]
    rintro s X Y row ⟨c, hc⟩ hgr hrow
    exact ⟨c, ((ownUp (hIx c) (by omega)).and (ownFrom_block _ (by omega))) s X Y row hc hgr hrow⟩
  refine calls_any ((hseq l _ _ W1 hb J1 J2 ?_ ⟨hI1, hL⟩).mono ?_)
  · rintro pre x W ⟨hi, hlW⟩ hp
    have hy := run_yield (P := P) (args := encs x) hlW (by rw [hrec]; exact hps x)
    rw [hrec] at hy
    refine ⟨fn, _, assign, body, hy, round_any (m := n - 1 - 1) (roundIn_of_wpIn (F := Fence.wide) trivial (hassign pre x W _ hi hp ?_))⟩
    clear hy
    intro a' Wa hka hba hia hax
    have hla := hka.same _ _ hl hlW rfl
    have hlt := (Array.getElem?_eq_some_iff.1 hla).1
    refine ⟨_, run_beginRound hla (by rw [hrec]), ?_⟩
    have hl2 : (Wa.putObj l (.loop { rec .ready none with state := .busy })).heap[l]? = some (.loop { rec .ready none with state := .busy }) := World.putObj_heap_same hlt
    refine wpIn_mono (hbody pre x a' _ ⟨_, hl2⟩ (hI.putObj _ hia (Nat.le_refl _) hla rfl) ((hAx x a').putObj (s := ()) _ hax (Nat.le_refl _) hla rfl) hp) ?_
    have fin : ∀ (jump : Option Code) (W3 : World), KeepsFrom w.heap.size (Wa.putObj l (.loop { rec .ready none with state := .busy })) W3 →
        (Instr.endRound l jump).run P W3 = .ok (.bool jump.isNone) (W3.putObj l (.loop (rec (if jump.isNone then .ready else .done) jump))) ∧ W3.heap[l]? = some (.loop { rec .ready none with state := .busy }) ∧
        (W3.putObj l (.loop (rec (if jump.isNone then .ready else .done) jump))).heap[l]? = some (.loop (rec (if jump.isNone then .ready else .done) jump)) := fun jump W3 hk3 => by
      have h3 := hk3.same _ _ hl hl2 rfl
      have he := run_endRound (P := P) jump h3
      rw [hrec] at he h3 ⊢
      exact ⟨he, h3, World.putObj_heap_same (Array.getElem?_eq_some_iff.1 h3).1⟩
    rintro e a3 W3 hq
    cases e with
    | normal =>
      obtain ⟨hk3, hb3, hi3⟩ := hq
      obtain ⟨hr, h3, h4⟩ := fin none W3 hk3
      exact ⟨_, _, hr, .inl ⟨rfl, ⟨hI.putObj _ hi3 (Nat.le_refl _) h3 rfl, h4⟩, hba.trans ((turn _ hla).trans (hb3.trans (turn _ h3))),
        by rw [hsz]; exact (keepsFrom_up hka (by omega)).trans ((keeps _).trans ((keepsFrom_up hk3 (by omega)).trans (keeps _)))⟩⟩
    | ret =>
      obtain ⟨hk3, hi3⟩ := hq
      obtain ⟨hr, h3, h4⟩ := fin (some .ret) W3 hk3
      exact ⟨_, _, hr, .inr ⟨rfl, ⟨.ret, (hIx _).putObj _ hi3 (Nat.le_refl _) h3 rfl, h4⟩, by rw [hsz]; exact (keepsFrom_up hka (by omega)).trans ((keeps _).trans ((keepsFrom_up hk3 (by omega)).trans (keeps _)))⟩⟩
    | exit id =>
      obtain ⟨hk3, hi3⟩ := hq
      obtain ⟨hr, h3, h4⟩ := fin (some (.exit id)) W3 hk3
      exact ⟨_, _, hr, .inr ⟨rfl, ⟨.exit id, (hIx _).putObj _ hi3 (Nat.le_refl _) h3 rfl, h4⟩, by rw [hsz]; exact (keepsFrom_up hka (by omega)).trans ((keeps _).trans ((keepsFrom_up hk3 (by omega)).trans (keeps _)))⟩⟩
    | goto t =>
      obtain ⟨hk3, hi3⟩ := hq
      obtain ⟨hr, h3, h4⟩ := fin (some (.goto t)) W3 hk3
      exact ⟨_, _, hr, .inr ⟨rfl, ⟨.goto t, (hIx _).putObj _ hi3 (Nat.le_refl _) h3 rfl, h4⟩, by rw [hsz]; exact (keepsFrom_up hka (by omega)).trans ((keeps _).trans ((keepsFrom_up hk3 (by omega)).trans (keeps _)))⟩⟩
    | panic ch => exact hq.elim
    | outgrown => exact hq.elim
  · rintro e W2 ⟨⟨u, rfl⟩, (⟨hi, hlW⟩ | ⟨pre, hp, c, hi, hlW⟩)⟩
    · exact ⟨none, _, by have := run_endLoop (P := P) hlW (by rw [hrec]; simp); rw [hrec] at this; exact this, hdone _ (hI.putObj _ hi (Nat.le_refl _) hlW rfl)⟩
    · exact ⟨some c, _, by have := run_endLoop (P := P) hlW (by rw [hrec]; simp); rw [hrec] at this; exact this, hstop c pre _ hp ((hIx c).putObj _ hi (Nat.le_refl _) hlW rfl)⟩
theorem wpIn_over {α : Type} {P : Program} {n : Nat} {g : Operand} {ps : Array Tmp} {assign body : Code} {Q : Exit → Act → World → Prop} {a : Act} {w : World}
    {encs : α → Array Value} {n₀ B : Nat} {U : List TypeId} {xs : List α} {v : Value} (hG : Gives P n₀ B U v encs xs w) (hg : a.eval g = v) (hps : ∀ x, (encs x).size = ps.size) (hn₀ : n₀ ≤ w.heap.size)
    (I : List α → World → Prop) (Ix : Code → List α → World → Prop) (hI : OwnFrom w.heap.size I) (hIx : ∀ c, OwnFrom w.heap.size (Ix c)) (h0 : I [] w) (Ax : α → Act → World → Prop) (hAx : ∀ x a', OwnFrom w.heap.size (fun (_ : Unit) W => Ax x a' W))
    (hassign : ∀ (l : Nat) (pre : List α) (x : α) (W : World) (K : Act → World → Prop), w.heap.size ≤ l → I pre W → pre ++ [x] <+: xs → (∀ a' W', KeepsFrom w.heap.size W W' → Kp n₀ B U W W' → I pre W' → Ax x a' W' → K a' W') →
      assign.wpIn (Fence.wide.inRound l) (n - 1 - 1) P (Exit.then K (fun _ _ _ => False)) { tmps := (ps.zip (encs x)).foldl (fun t (p, v) => t.setIfInBounds p v) a.tmps, defers := [] } W)
    (hbody : ∀ (l : Nat) (pre : List α) (x : α) (a' : Act) (W : World), w.heap.size ≤ l → (∃ rc, W.heap[l]? = some (.loop rc)) → I pre W → Ax x a' W → pre ++ [x] <+: xs → body.wpIn (Fence.wide.inRound l) (n - 1 - 1) P (ownPostG w.heap.size (Kp n₀ B U) I Ix (pre ++ [x]) W) a' W)
    (hdone : ∀ (D : Nat) (W : World), w.heap.size ≤ D → I xs W → W.heap[D]? = some (.deferred (some [])) → Q .normal { a with defers := { target := .collected D, args := #[] } :: a.defers } W)
    (hstop : ∀ (D : Nat) (c : Code) (pre : List α) (W : World), w.heap.size ≤ D → pre <+: xs → Ix c pre W → W.heap[D]? = some (.deferred (some [])) → c.wpIn Fence.wide n P Q { a with defers := { target := .collected D, args := #[] } :: a.defers } W) :
    (Code.rangeFunc g ps assign body).wpIn Fence.wide n P Q a w := by
  refine wpIn_over_core (r := none) hG hg hps hn₀ (w.heap.size + 1) w.heap.size [{ target := .collected w.heap.size, args := #[] }] (by omega)
    (fun pre W => I pre W ∧ W.heap[w.heap.size]? = some (.deferred (some []))) (fun c pre W => Ix c pre W ∧ W.heap[w.heap.size]? = some (.deferred (some [])))
    ((ownUp hI (by omega)).and (ownFrom_block _ (by omega))) (fun c => (ownUp (hIx c) (by omega)).and (ownFrom_block _ (by omega))) Ax (fun x a' => ownUp (hAx x a') (by omega)) ?_ ?_ ?_ ?_ ?_
  · intro fn
    refine ⟨_, run_enterLoop_outer fn a.tmps ps assign body, ?_, by simp, ((Below.refl _ w).alloc (Nat.le_refl _) _).alloc (by simp) _, hI.alloc _ (hI.alloc _ h0), (Below.heap_alloc _ _ _ (by simp)).trans (World.alloc_heap_new w _)⟩
    have h := World.alloc_heap_new (w.alloc (.deferred (some []))) (.loop { state := .ready, pending := none, fn, tmps := a.tmps, params := ps, assign, body, defers := w.heap.size })
    rwa [World.size_alloc] at h
  · intro pre x W K hi hp hK
    refine hassign _ pre x W K (by omega) hi.1 hp fun a' W' hk hb hi' hax => hK a' W' hk hb ⟨hi', hk.same _ _ (Nat.le_refl _) hi.2 rfl⟩ hax
  · intro pre x a' W hrc hi hax hp
    refine wpIn_mono (hbody _ pre x a' W (by omega) hrc hi.1 hax hp) ?_
    rintro e a3 W3 hq
    cases e with
    | normal => exact ⟨hq.1, hq.2.1, hq.2.2, hq.1.same _ _ (Nat.le_refl _) hi.2 rfl⟩
    | ret => exact ⟨hq.1, hq.2, hq.1.same _ _ (Nat.le_refl _) hi.2 rfl⟩
    | exit id => exact ⟨hq.1, hq.2, hq.1.same _ _ (Nat.le_refl _) hi.2 rfl⟩
    | goto t => exact ⟨hq.1, hq.2, hq.1.same _ _ (Nat.le_refl _) hi.2 rfl⟩
    | panic ch => exact hq.elim
    | outgrown => exact hq.elim
  · exact fun W hi => hdone _ W (Nat.le_refl _) hi.1 hi.2
  · exact fun c pre W hp hi => hstop _ c pre W (Nat.le_refl _) hp hi.1 hi.2
end Go.Proofs.YtnedcclmfokdnaaGreat
