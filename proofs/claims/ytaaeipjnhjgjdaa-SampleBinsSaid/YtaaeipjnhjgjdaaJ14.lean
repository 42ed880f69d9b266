/- Texts joined: Draw DrawB PickIn Plan PlanA PlanP PlanS PlanD. -/
import Derived.Test.YtaaeipjnhjgjdaaJ13
import Derived.Test.YtaaeipjnhjgjdaaJ3
import Derived.OrdersIn
/- Regions that draw their order, in a round of a loop over an iterator too. No program is named here. -/
namespace Go.Proofs.Ytaaeipjnhjgjdaa
open Go Go.RowKit

/-- The fence that lets all in, in a round or outside of one. -/
abbrev Fr (r : Option Nat) : Fence := { Fence.wide with round := r }
def noDefer (ops : Array Oper) : Bool := ops.all fun o => match o.op with | .defer _ => false | _ => true
theorem noDefer_spec {ops : Array Oper} (h : noDefer ops = true) {i : Nat} {o : Oper} (hi : ops[i]? = some o) : ∀ c, o.op ≠ .defer c := by
  intro c hc
  have h1 : o ∈ ops := Array.mem_of_getElem? hi
  have h2 := Array.all_eq_true'.1 h o h1
  rw [hc] at h2
  cases h2

section
variable {P : Program} {ops : Array Oper} {C : World → Prop} {Q : Exit → Act → World → Prop} {r : Option Nat} {n : Nat}

theorem quiet_in {o : Oper} {a : Act} {K : Act → Prop} {K' : Act → World → Prop} {w : World} (hd : ∀ c, o.op ≠ .defer c) (hw : C w) (h : ∀ a w', C w' → K a → K' a w') (hh : o.quiet P a C K) : o.wpIn (Fr r) n P a w K' Q := by
  obtain ⟨v, h1, h2⟩ := hh
  have h3 := h1 w hw
  unfold Oper.quietAt at h3
  refine ⟨fun _ _ => trivial, ?_⟩
  rw [Oper.semAt_eq _ _ _ hd]
  generalize (execOp a.eval o).run P w = x at *
  cases x with
  | ok m w' =>
    cases m <;> simp only [Oper.quietUpon] at h3 <;> simp only [Oper.uponIn]
    case value u => obtain ⟨rfl, rfl⟩ := h3; exact h _ _ hw h2
    case skip => obtain ⟨rfl, rfl⟩ := h3; exact h _ _ hw h2
    case enter f args =>
      obtain ⟨rfl, hc⟩ := h3
      exact ⟨fun h => by simp [Fence.wide] at h, calls_any (hc.mono fun e w'' ⟨he, hw''⟩ => by subst he; exact h _ _ hw'' h2)⟩
  | halt x w' => simp only [Oper.quietUpon] at h3

theorem wpOpIn_of_quiet {i : Nat} {a : Act} {K : Act → Prop} {K' : Act → World → Prop} {w : World} (hd : noDefer ops = true) (hC : C w) (h : ∀ a w', C w' → K a → K' a w') (hh : qOp P ops C i K a) : wpOpIn (Fr r) n P ops Q i K' a w := by
  unfold qOp at hh
  unfold wpOpIn
  split
  · rename_i ho; simp only [ho] at hh; exact h _ _ hC hh
  · rename_i o ho
    simp only [ho] at hh
    split
    · rename_i hw; simp only [hw, if_true] at hh; exact quiet_in (noDefer_spec hd ho) hC h hh
    · rename_i hw; simp only [hw] at hh; exact ⟨fun _ _ => trivial, h _ _ hC hh⟩

theorem wpAnyIn_of_quiet {D : Act → Prop} (hd : noDefer ops = true) (hQ : ∀ a w, C w → D a → Q .normal a w) : ∀ (f : Nat) (listed : Array Bool) (a : Act) (w : World), C w → wpAnyQ P .any ops C D f listed a → wpAnyIn (Fr r) n P .any ops Q f listed a w
  | 0, _, _, _, hw, h => ⟨h.1, hQ _ _ hw h.2⟩
  | f + 1, _, _, _, hw, h => ⟨fun h0 => hQ _ _ hw (h.1 h0), fun i hi => wpOpIn_of_quiet hd hw (fun a' w' hw' => wpAnyIn_of_quiet hd hQ f _ a' w' hw') (h.2 i hi)⟩

/-- A region whose operations read, or call what only makes memory of its own. -/
theorem wpIn_region_grown {id : Nat} {a : Act} {w : World} {l : List Oper} (hm : P.follows .mixedOrders = true) (hB : (noDefer l.toArray && Region.lexB .any l.toArray) = true)
    (h : (∀ (g : Gr w) b o, b < w.heap.size → g.val.cell? ⟨b, o, none⟩ = w.cell? ⟨b, o, none⟩) →
      wpQuiet P l.toArray (fun w' => ∃ g : Gr w, w' = g.val) (fun a' => ∀ w', (∃ g : Gr w, w' = g.val) → Q .normal a' w') l a) : (Code.region id l.toArray true).wpIn (Fr r) n P Q a w := by
  simp only [Region.lexB, Bool.and_eq_true] at hB
  refine wpIn_region_any hm (wpAnyIn_of_quiet hB.1 (D := fun a' => ∀ w', (∃ g : Gr w, w' = g.val) → Q .normal a' w') (fun _ w' hw' h => h w' hw') _ _ _ _ ⟨⟨w.drew, (Below.refl _ _).drew⟩, rfl⟩ ?_)
  have := wpAnyQ_lex (C := fun w' => ∃ g : Gr w, w' = g.val) (md := .any) hB.2.1 l 0 (Array.replicate l.toArray.size false) a (by simp) (by simpa using hB.2.2) (h fun g b o h => g.b.cell (p := ⟨b, o, none⟩) h)
  simpa using this

theorem Heads.anyIn {m g : Nat} {L : Array Bool → Act → Prop} (hd : noDefer ops = true) (hL : ∀ listed a w, C w → L listed a → wpAnyIn (Fr r) n P .any ops Q g listed a w) :
    ∀ (f : Nat) (listed : Array Bool) (a : Act) (w : World), C w → Heads P ops C m L f listed a → wpAnyIn (Fr r) n P .any ops Q (f + g) listed a w := by
  intro f
  induction f with
  | zero => intro listed a w hw h; rw [Nat.zero_add]; exact hL _ _ _ hw h
  | succ f ih =>
    intro listed a w hw ⟨⟨i0, h0⟩, h⟩
    rw [Nat.add_right_comm]
    refine ⟨fun he => ?_, fun i hi => wpOpIn_of_quiet hd hw (fun a' w' hw' h' => ih _ a' w' hw' h') (h i hi).2⟩
    rw [he] at h0
    cases h0

theorem wpAnyIn_of_seq : ∀ (l : List Oper) (k : Nat) (listed : Array Bool) (a : Act) (w : World), (∀ j, l[j]? = ops[k + j]?) →
    Region.seqB .any ops l.length k listed = true → wpListIn (Fr r) n P ops Q l a w → wpAnyIn (Fr r) n P .any ops Q l.length listed a w := by
  intro l
  induction l with
  | nil => intro k listed a w _ hB h; exact ⟨by simpa [Region.seqB] using hB, h⟩
  | cons o l ih =>
    intro k listed a w hl hB h
    have h0 : ops[k]? = some o := by simpa using (hl 0).symm
    simp only [List.length_cons, Region.seqB, Bool.and_eq_true, decide_eq_true_eq] at hB
    refine ⟨fun h1 => (by rw [hB.1] at h1; cases h1), fun i hi => ?_⟩
    rw [hB.1] at hi
    obtain rfl : i = k := by simpa using hi
    have hw : wpOpIn (Fr r) n P ops Q i (wpListIn (Fr r) n P ops Q l) a w := by unfold wpOpIn; simp only [h0]; exact h
    exact wpOpIn_mono (fun a' w' h' => ih (i + 1) _ a' w' (fun j => by have := hl (j + 1); simpa [Nat.add_assoc, Nat.add_comm 1 j] using this) hB.2 h') hw

/-- Its first m operations read, or call what only makes memory; the others wait for them all, and come in one order. -/
theorem wpIn_region_grown_tail {id : Nat} {a : Act} {w : World} {l : List Oper} (m : Nat) (hm : P.follows .mixedOrders = true) (hB : (noDefer l.toArray && Region.lexTailB .any l.toArray m) = true)
    (h : (∀ (g : Gr w) b o, b < w.heap.size → g.val.cell? ⟨b, o, none⟩ = w.cell? ⟨b, o, none⟩) →
      wpQuiet P l.toArray (fun w' => ∃ g : Gr w, w' = g.val) (fun a' => ∀ w', (∃ g : Gr w, w' = g.val) → wpListIn (Fr r) n P l.toArray Q (l.drop m) a' w') (l.take m) a) : (Code.region id l.toArray true).wpIn (Fr r) n P Q a w := by
  simp only [Region.lexTailB, Bool.and_eq_true, decide_eq_true_eq] at hB
  obtain ⟨hd, ⟨⟨⟨hns, hn⟩, hs⟩, hc⟩, hlex⟩ := hB
  have hnl : m < l.length := by simpa using hn
  have htk : (l.take m).length = m := by simp; omega
  have inv : HeadInv .any l.toArray m (Array.replicate l.toArray.size false) :=
    ⟨by simp, fun j oj _ hl => (by rw [getD_replicate_false] at hl; cases hl), fun t _ ht => getD_in (by simpa using ht) (getD_replicate_false _ _)⟩
  have hH := Heads.lex (g := l.toArray.size - m) hns (waits_all hs hc hn) (l.take m) 0 _ a (Nat.le_refl _) (fun j hj => by
    have hj' : j < m := by rw [htk] at hj; exact hj
    simp [hj']) (by simpa using htk) inv (by rw [htk]; exact hlex) (h fun g b o h => g.b.cell (p := ⟨b, o, none⟩) h)
  have hA := Heads.anyIn (r := r) (n := n) (Q := Q) (g := l.toArray.size - m) hd (fun li a' w' hw' hL => by
    have := wpAnyIn_of_seq (r := r) (n := n) (Q := Q) (l.drop m) m li a' w' (fun j => by simp [List.getElem?_drop]) (by simpa using hL.1) (hL.2 w' hw')
    simpa using this) _ _ _ w.drew ⟨⟨w.drew, (Below.refl _ _).drew⟩, rfl⟩ hH
  refine wpIn_region_any hm ?_
  rw [htk, show m + (l.toArray.size - m) = l.toArray.size by omega] at hA
  exact hA
end
end Go.Proofs.Ytaaeipjnhjgjdaa
/- A region that draws its order, whose first operations read, or call what only makes memory, and whose others store and come in one order, whatever is read meanwhile: over a class of worlds that what is stored and made does not leave. -/
namespace Go.Proofs.Ytaaeipjnhjgjdaa
open Go Go.RowKit

section
variable {P : Program} {ops : Array Oper} {G : World → Prop} {Q : Exit → Act → World → Prop} {r : Option Nat} {n : Nat}

def RelG (P : Program) (G : World → Prop) (o : Oper) (a : Act) (v : Value) : Prop := ∀ u, G u → RelUpon P u v ((execOp a.eval o).run P u)
def RelS (P : Program) (G : World → Prop) (o : Oper) (a : Act) (next : Act → Prop) : Prop := ∃ v, RelG P G o a v ∧ next (a.put o.dst v)
def wpRelS (P : Program) (ops : Array Oper) (G : World → Prop) (D : Act → Prop) : List Oper → Act → Prop
  | [], a => D a
  | o :: rest, a => if Region.wanted o (yielded ops a.tmps) then RelS P G o a (wpRelS P ops G D rest) else wpRelS P ops G D rest (a.put o.dst undef)
theorem wpRelS_nil {D : Act → Prop} {a : Act} (h : D a) : wpRelS P ops G D [] a := h
theorem wpRelS_step {D : Act → Prop} {a : Act} {o : Oper} {rest : List Oper}
    (h : ∀ K : Act → Prop, (∀ a, wpRelS P ops G D rest a → K a) → if Region.wanted o (yielded ops a.tmps) then RelS P G o a K else K (a.put o.dst undef)) : wpRelS P ops G D (o :: rest) a :=
  h _ fun _ h => h
def YRelG (P : Program) (ops : Array Oper) (G : World → Prop) (o : Oper) (v : Value) (a : Act) : Prop :=
  (Region.wanted o (yielded ops a.tmps) = true ∧ RelG P G o a v) ∨ (Region.wanted o (yielded ops a.tmps) = false ∧ v = undef)
theorem YRelG.same {o : Oper} {v : Value} {a a' : Act} (h : YRelG P ops G o v a) (he : execOp a'.eval o = execOp a.eval o) (hw : Region.wanted o (yielded ops a'.tmps) = Region.wanted o (yielded ops a.tmps)) : YRelG P ops G o v a' := by
  unfold YRelG RelG at *
  rw [he, hw]
  exact h
def BoxedG (G : World → Prop) (K : Act → World → Prop) (a : Act) (w : World) : Prop := G w ∧ ∀ u, Below w.heap.size w u → K a u

theorem YRelG.op (hG : ∀ u u', G u → Below u.heap.size u u' → G u') (hd : noDefer ops = true) {i : Nat} {o : Oper} {v : Value} {a : Act} (hi : ops[i]? = some o) (h : YRelG P ops G o v a) {K : Act → World → Prop} {u : World} (hu : G u)
    (hK : ∀ u', Below u.heap.size u u' → K (a.put o.dst v) u') : wpOpIn (Fr r) n P ops Q i (BoxedG G K) a u := by
  unfold wpOpIn
  simp only [hi]
  rcases h with ⟨hw, hr⟩ | ⟨hw, rfl⟩
  · simp only [hw, if_true]
    refine ⟨fun _ _ => trivial, ?_⟩
    rw [Oper.semAt_eq _ _ _ (noDefer_spec hd hi)]
    have := hr u hu
    generalize (execOp a.eval o).run P u = x at *
    cases x with
    | ok m w' =>
      cases m <;> simp only [RelUpon] at this <;> simp only [Oper.uponIn]
      case value x => obtain ⟨rfl, rfl⟩ := this; exact ⟨hu, hK⟩
      case skip => obtain ⟨rfl, rfl⟩ := this; exact ⟨hu, hK⟩
      case enter f args =>
        obtain ⟨rfl, hc⟩ := this
        refine ⟨fun h => by simp [Fence.wide] at h, calls_any (hc.mono fun e w'' ⟨he, hb⟩ => ?_)⟩
        subst he
        exact ⟨hG _ _ hu hb, fun u' hu' => hK u' (below_then hb hu')⟩
    | halt x w' => simp only [RelUpon] at this
  · simp only [hw, Bool.false_eq_true, if_false]
    exact ⟨fun _ _ => trivial, hu, hK⟩

theorem boxedG_put (hd : noDefer ops = true) {j : Nat} {oi oj : Oper} {v : Value} (hj : ops[j]? = some oj) (hap : oi.apart ops oj = true) (hsi : ∀ cs b, oi.op ≠ .select cs b) (hsj : ∀ cs b, oj.op ≠ .select cs b)
    (hQ : ∀ c a w, Q (.panic c) (a.put oi.dst v) w → Q (.panic c) a w) {K : Act → World → Prop} {a : Act} {w : World} (hy : YRelG P ops G oi v a) (h : wpOpIn (Fr r) n P ops Q j K (a.put oi.dst v) w) :
    wpOpIn (Fr r) n P ops Q j (fun a' w' => YRelG P ops G oi v a' ∧ K (a'.put oi.dst v) w') a w := by
  obtain ⟨h1, h2, h3⟩ := Oper.apart_spec hap
  have keep : ∀ u, YRelG P ops G oi v (a.put oj.dst u) := fun u => hy.same (execOp_put oi hsi a oj.dst u h3) (wanted_put oi a oj.dst u h3)
  have back : ∀ u, (a.put oi.dst v).put oj.dst u = (a.put oj.dst u).put oi.dst v := fun u => Act.put_comm a v u h2
  have hdj := noDefer_spec hd hj
  unfold wpOpIn at *
  simp only [hj] at *
  rw [wanted_put oj a oi.dst v h1] at h
  cases hw : Region.wanted oj (yielded ops a.tmps) with
  | false =>
    simp only [hw, Bool.false_eq_true, if_false] at h ⊢
    exact ⟨fun _ _ => trivial, keep _, by rw [← back]; exact h.2⟩
  | true =>
    simp only [hw, if_true] at h ⊢
    refine ⟨fun _ _ => trivial, ?_⟩
    replace h := h.2
    rw [Oper.semAt_eq _ _ _ hdj] at h ⊢
    rw [execOp_put oj hsj a oi.dst v h1] at h
    generalize (execOp a.eval oj).run P w = x at *
    match x, h with
    | .ok (.value u) w', h => exact ⟨keep u, by rw [← back]; exact h⟩
    | .ok .skip w', h => exact ⟨keep _, by rw [← back]; exact h⟩
    | .ok (.defer d) w', h =>
      refine ⟨YRelG.same (a := a) (hy) ?_ ?_, ?_⟩
      · exact execOp_put oi hsi { a with defers := d :: a.defers } oj.dst undef h3
      · exact wanted_put oi { a with defers := d :: a.defers } oj.dst undef h3
      · have e := Act.put_comm { a with defers := d :: a.defers } v undef h2
        rw [← e, ← Act.put_defers]
        exact h
    | .ok (.enter f args) w', h =>
      refine ⟨h.1, CallsIn.mono h.2 fun e w'' he => ?_⟩
      match e, he with
      | .returned u, he => exact ⟨keep u, by rw [← back]; exact he⟩
      | .panicked c, he => exact hQ _ _ _ he
      | .outgrown, he => exact he
    | .ok (.row row args) w', h => exact ⟨h.1, RowsIn.mono h.2 fun u w'' he => ⟨keep u, by rw [← back]; exact he⟩⟩
    | .ok (.round l f tmps assign body) w', h =>
      refine ⟨h.1, RoundIn.mono h.2 fun e w'' he => ?_⟩
      match e, he with
      | .returned u, he => exact ⟨keep u, by rw [← back]; exact he⟩
      | .panicked c, he => exact hQ _ _ _ he
      | .outgrown, he => exact he
    | .halt (.panic u) w', h => exact hQ _ _ _ h

def wpBG (r : Option Nat) (n : Nat) (P : Program) (ops : Array Oper) (G : World → Prop) (Q : Exit → Act → World → Prop) : Nat → Array Bool → Act → World → Prop
  | 0, listed, a, w => Region.ready .any ops listed = [] ∧ Q .normal a w
  | f + 1, listed, a, w => (Region.ready .any ops listed = [] → Q .normal a w) ∧ ∀ i ∈ Region.ready .any ops listed, wpOpIn (Fr r) n P ops Q i (BoxedG G (wpBG r n P ops G Q f (listed.setIfInBounds i true))) a w
theorem wpBG.any : ∀ (f : Nat) (listed : Array Bool) (a : Act) (w : World), wpBG r n P ops G Q f listed a w → wpAnyIn (Fr r) n P .any ops Q f listed a w
  | 0, _, _, _, h => h
  | f + 1, _, _, _, h => ⟨h.1, fun i hi => wpOpIn_mono (fun a' w' hb => wpBG.any f _ a' w' (hb.2 w' (Below.refl _ _))) (h.2 i hi)⟩

theorem wpBG.first (hG : ∀ u u', G u → Below u.heap.size u u' → G u') (hd : noDefer ops = true) {i : Nat} {o : Oper} {v : Value} (hi : ops[i]? = some o) (hns : Region.noSelect ops = true) (hQ : ∀ c a d v w, Q (.panic c) (Act.put a d v) w → Q (.panic c) a w) (f : Nat) :
    ∀ (listed : Array Bool) (a : Act) (w : World), G w →
      (∀ j oj, ops[j]? = some oj → j ≠ i → listed.getD j true = false → (∀ e ∈ oj.after, Region.binds .any e = true → e.on ≠ i) → o.apart ops oj = true) →
      i ∈ Region.ready .any ops listed → YRelG P ops G o v a → (∀ u, Below w.heap.size w u → wpBG r n P ops G Q f (listed.setIfInBounds i true) (a.put o.dst v) u) →
      ∀ u, Below w.heap.size w u → wpBG r n P ops G Q (f + 1) listed a u := by
  have hsel := Region.noSelect_spec hns
  induction f with
  | zero =>
    intro listed a w hw _ hr hy H u hu
    refine ⟨fun h => (by rw [h] at hr; cases hr), fun j hj => ?_⟩
    by_cases e : j = i
    · subst e
      exact hy.op hG hd hi (hG _ _ hw hu) fun u' hu' => H u' (below_then hu hu')
    · have h1 := ready_mono hj e
      rw [(H u hu).1] at h1
      cases h1
  | succ f ih =>
    intro listed a w hw hfree hr hy H u hu
    refine ⟨fun h => (by rw [h] at hr; cases hr), fun j hj => ?_⟩
    by_cases e : j = i
    · subst e
      exact hy.op hG hd hi (hG _ _ hw hu) fun u' hu' => H u' (below_then hu hu')
    · obtain ⟨hun, _⟩ := mem_ready.1 hr
      obtain ⟨huj, oj, hoj, hdone⟩ := mem_ready.1 hj
      have hfar : ∀ x ∈ oj.after, Region.binds .any x = true → x.on ≠ i := by
        intro x hx hb hxi
        have := hdone x hx hb
        rw [hxi] at this
        rcases Nat.lt_or_ge i listed.size with hl | hl
        · simp [hl] at hun this; rw [hun] at this; cases this
        · simp [Array.getElem?_eq_none hl] at hun
      have h2 := boxedG_put (r := r) (n := n) hd hoj (hfree j oj hoj e huj hfar) (fun cs b => hsel i o cs b hi) (fun cs b => hsel j oj cs b hoj) (fun c a' w' => hQ c a' _ _ w') hy ((H u hu).2 j (ready_mono hj e))
      refine wpOpIn_mono (fun a' w' hb => ?_) h2
      obtain ⟨hy', hb', hall⟩ := hb
      refine ⟨hb', fun u' hu' => ih (listed.setIfInBounds j true) a' w' hb' (fun m om hm hmi hum hnm => ?_) (ready_mono hr (Ne.symm e)) hy' (fun u'' hu'' => ?_) u' hu'⟩
      · have hum' : listed.getD m true = false := by
          by_cases e2 : j = m
          · subst e2; exact huj
          · rw [getD_set_ne true e2] at hum; exact hum
        exact hfree m om hm hmi hum' hnm
      · rw [Array.setIfInBounds_comm _ _ e]; exact hall u'' hu''

theorem yrelG_of_step {D : Act → Prop} {o : Oper} {rest : List Oper} {a : Act} (h : wpRelS P ops G D (o :: rest) a) : ∃ v, YRelG P ops G o v a ∧ wpRelS P ops G D rest (a.put o.dst v) := by
  unfold wpRelS at h
  cases hw : Region.wanted o (yielded ops a.tmps) with
  | true =>
    simp only [hw, if_true] at h
    obtain ⟨v, h1, h2⟩ := h
    exact ⟨v, .inl ⟨hw, h1⟩, h2⟩
  | false =>
    simp only [hw, Bool.false_eq_true, if_false] at h
    exact ⟨undef, .inr ⟨hw, rfl⟩, h⟩

theorem wpBG.lex (hG : ∀ u u', G u → Below u.heap.size u u' → G u') (hd : noDefer ops = true) {m g : Nat} {D : Act → Prop} (hns : Region.noSelect ops = true) (hQ : ∀ c a d v w, Q (.panic c) (Act.put a d v) w → Q (.panic c) a w) (w : World) (hw : G w)
    (hend : ∀ listed a, Region.seqB .any ops g m listed = true → D a → ∀ u, Below w.heap.size w u → wpBG r n P ops G Q g listed a u) (l : List Oper) :
    ∀ (k : Nat) (listed : Array Bool) (a : Act), (∀ j, j < l.length → l[j]? = ops[k + j]?) → k + l.length = m → Region.lexHead .any ops g l.length k listed = true → wpRelS P ops G D l a →
      ∀ u, Below w.heap.size w u → wpBG r n P ops G Q (l.length + g) listed a u := by
  induction l with
  | nil =>
    intro k listed a _ hk hB h u hu
    obtain rfl : k = m := by simpa using hk
    rw [List.length_nil, Nat.zero_add]
    exact hend listed a (by simpa [Region.lexHead] using hB) h u hu
  | cons o l ih =>
    intro k listed a hat hk hB h u hu
    have hok : ops[k]? = some o := by simpa using (hat 0 (by simp)).symm
    simp only [List.length_cons] at hk
    simp only [List.length_cons, Region.lexHead, Bool.and_eq_true] at hB
    obtain ⟨v, hy, hD⟩ := yrelG_of_step h
    rw [List.length_cons, Nat.add_right_comm]
    refine wpBG.first hG hd hok hns hQ (l.length + g) listed a w hw (Region.free_spec hok hB.1.2) (by simpa using hB.1.1) hy (fun u' hu' => ?_) u hu
    refine ih (k + 1) _ _ (fun j hj => ?_) (by omega) hB.2 hD u' hu'
    have := hat (j + 1) (by simp; omega)
    simpa [Nat.add_assoc, Nat.add_comm 1 j] using this

/-- The rest, in one order; what follows each operation is shown in every world grown out of the one that it left. -/
def wpBoxG (r : Option Nat) (n : Nat) (P : Program) (G : World → Prop) (Q : Exit → Act → World → Prop) : List Oper → Act → World → Prop
  | [], a, w => Q .normal a w
  | o :: rest, a, w => o.guard = none ∧ o.wpIn (Fr r) n P a w (BoxedG G (wpBoxG r n P G Q rest)) Q
theorem wpBG.seq (l : List Oper) : ∀ (k : Nat) (listed : Array Bool) (a : Act) (w : World), (∀ j, j < l.length → l[j]? = ops[k + j]?) → Region.seqB .any ops l.length k listed = true → wpBoxG r n P G Q l a w →
    wpBG r n P ops G Q l.length listed a w := by
  induction l with
  | nil => intro k listed a w _ hB h; exact ⟨by simpa [Region.seqB] using hB, h⟩
  | cons o l ih =>
    intro k listed a w hat hB ⟨hg, h⟩
    have hok : ops[k]? = some o := by simpa using (hat 0 (by simp)).symm
    simp only [List.length_cons, Region.seqB, Bool.and_eq_true, decide_eq_true_eq] at hB
    refine ⟨fun h1 => (by rw [hB.1] at h1; cases h1), fun i hi => ?_⟩
    rw [hB.1] at hi
    obtain rfl : i = k := by simpa using hi
    unfold wpOpIn
    simp only [hok, Region.wanted, hg, if_true]
    refine Oper.wpIn_mono (fun a' w' hb => ⟨hb.1, fun u hu => ih (i + 1) _ a' u (fun j hj => ?_) hB.2 (hb.2 u hu)⟩) h
    have := hat (j + 1) (by simp; omega)
    simpa [Nat.add_assoc, Nat.add_comm 1 j] using this

/-- A region that draws its order: its first m operations read, or call what only makes memory; the others, in one order, make and store, and leave the class nowhere. -/
theorem wpIn_region_boxed {id : Nat} {a : Act} {w : World} {l : List Oper} (m : Nat) (hm : P.follows .mixedOrders = true) (hB : (noDefer l.toArray && boxedB l.toArray m) = true) (hQ : ∀ c a d v w, Q (.panic c) (Act.put a d v) w → Q (.panic c) a w)
    (G : World → Prop) (hG : ∀ u u', G u → Below u.heap.size u u' → G u') (hw : G w)
    (h : wpRelS P l.toArray G (fun a' => ∀ u, Below w.heap.size w u → G u → wpBoxG r n P G Q (l.drop m) a' u) (l.take m) a) : (Code.region id l.toArray true).wpIn (Fr r) n P Q a w := by
  simp only [boxedB, Bool.and_eq_true, decide_eq_true_eq] at hB
  obtain ⟨hd, ⟨hns, hn⟩, hlex⟩ := hB
  have hnl : m ≤ l.length := by simpa using hn
  have htk : (l.take m).length = m := by simp; omega
  have hdl : (l.drop m).length = l.toArray.size - m := by simp
  have H := wpBG.lex (r := r) (n := n) (Q := Q) (g := l.toArray.size - m) (D := fun a' => ∀ u, Below w.heap.size w u → G u → wpBoxG r n P G Q (l.drop m) a' u) hG hd hns hQ w hw (fun listed a' hs hD u hu => by
    have := wpBG.seq (ops := l.toArray) (l.drop m) m listed a' u (fun j _ => by simp [List.getElem?_drop]) (by rw [hdl]; exact hs) (hD u hu (hG _ _ hw hu))
    rwa [hdl] at this) (l.take m) 0 (Array.replicate l.toArray.size false) a (fun j hj => by
    have hj' : j < m := by rw [htk] at hj; exact hj
    simp [hj']) (by simpa using htk) (by rw [htk]; exact hlex) h w.drew ((Below.refl _ _).drew)
  refine wpIn_region_any hm ?_
  rw [htk, show m + (l.toArray.size - m) = l.toArray.size by omega] at H
  exact wpBG.any _ _ _ _ H
end
end Go.Proofs.Ytaaeipjnhjgjdaa
/- Regions that draw their order, by picked numbers, in a round of a loop over an iterator too. No program is named here. -/
namespace Go.Proofs.Ytaaeipjnhjgjdaa
open Go Go.RowKit

section
variable {P : Program} {ops : Array Oper} {G : World → Prop} {Q : Exit → Act → World → Prop} {S : Nat → Bool} {r : Option Nat} {n : Nat}

def BoxSG (s : Bool) (G : World → Prop) (K : Act → World → Prop) (a : Act) (w : World) : Prop := if s then K a w else BoxedG G K a w
theorem BoxSG.now {s : Bool} {K : Act → World → Prop} {a : Act} {w : World} (h : BoxSG s G K a w) : K a w := by
  cases s
  · exact (show BoxedG G K a w from h).2 w (Below.refl _ _)
  · exact h
def wpCG (r : Option Nat) (n : Nat) (P : Program) (ops : Array Oper) (G : World → Prop) (S : Nat → Bool) (Q : Exit → Act → World → Prop) : Nat → Array Bool → Act → World → Prop
  | 0, listed, a, w => Region.ready .any ops listed = [] ∧ Q .normal a w
  | f + 1, listed, a, w => (Region.ready .any ops listed = [] → Q .normal a w) ∧ ∀ i ∈ Region.ready .any ops listed, wpOpIn (Fr r) n P ops Q i (BoxSG (S i) G (wpCG r n P ops G S Q f (listed.setIfInBounds i true))) a w
theorem wpCG.any : ∀ (f : Nat) (listed : Array Bool) (a : Act) (w : World), wpCG r n P ops G S Q f listed a w → wpAnyIn (Fr r) n P .any ops Q f listed a w
  | 0, _, _, _, h => h
  | f + 1, _, _, _, h => ⟨h.1, fun i hi => wpOpIn_mono (fun a' w' hb => wpCG.any f _ a' w' hb.now) (h.2 i hi)⟩

/-- Whatever is listed, what it waits for is listed. -/
def closedL (ops : Array Oper) (listed : Array Bool) : Prop := ∀ k o, ops[k]? = some o → listed.getD k false = true → ∀ e ∈ o.after, Region.binds .any e = true → listed.getD e.on false = true
theorem getD_keep {listed : Array Bool} {j m : Nat} (h : listed.getD m false = true) : (listed.setIfInBounds j true).getD m false = true := by
  have hm : m < listed.size := by
    rcases Nat.lt_or_ge m listed.size with h2 | h2
    · exact h2
    · simp [Array.getElem?_eq_none h2] at h
  simp only [Array.getD_eq_getD_getElem?, Array.getElem?_setIfInBounds] at h ⊢
  split
  · simp_all
  · exact h
theorem closedL.set {listed : Array Bool} (h : closedL ops listed) {j : Nat} (hj : j ∈ Region.ready .any ops listed) : closedL ops (listed.setIfInBounds j true) := by
  obtain ⟨_, oj, hoj, hdone⟩ := mem_ready.1 hj
  intro k o hk hl e he hb
  by_cases ek : j = k
  · subst ek
    rw [hoj] at hk; cases hk
    exact getD_keep (hdone e he hb)
  · have hl2 : listed.getD k false = true := by
      simp only [Array.getD_eq_getD_getElem?, Array.getElem?_setIfInBounds, if_neg ek] at hl ⊢
      exact hl
    exact getD_keep (h k o hk hl2 e he hb)
/-- Operation j waits for operation i, perhaps by way of others. -/
def waitsT (ops : Array Oper) (i : Nat) : Nat → Nat → Bool
  | 0, _ => false
  | f + 1, j => match ops[j]? with
    | some o => o.after.any fun e => Region.binds .any e && decide (e.on < ops.size) && (e.on == i || waitsT ops i f e.on)
    | none => false
theorem waitsT_listed {listed : Array Bool} (h : closedL ops listed) {i : Nat} : ∀ (f j : Nat), waitsT ops i f j = true → (∀ o, ops[j]? = some o → ∀ e ∈ o.after, Region.binds .any e = true → listed.getD e.on false = true) → listed.getD i false = true
  | 0, _, hw, _ => by cases hw
  | f + 1, j, hw, hl => by
    unfold waitsT at hw
    cases ho : ops[j]? with
    | none => rw [ho] at hw; cases hw
    | some o =>
      rw [ho] at hw
      obtain ⟨e, he, hb⟩ := Array.any_eq_true'.1 hw
      simp only [Bool.and_eq_true, Bool.or_eq_true, beq_iff_eq, decide_eq_true_eq] at hb
      obtain ⟨⟨h1, h2⟩, h3⟩ := hb
      have hle := hl o ho e he h1
      rcases h3 with h3 | h3
      · rw [← h3]; exact hle
      · exact waitsT_listed h f e.on h3 fun o' ho' e' he' hb' => h e.on o' ho' hle e' he' hb'
theorem wpCG.first (hG : ∀ u u', G u → Below u.heap.size u u' → G u') (hd : noDefer ops = true) {i : Nat} {o : Oper} {v : Value} (hi : ops[i]? = some o) (hns : Region.noSelect ops = true) (hQ : ∀ c a d v w, Q (.panic c) (Act.put a d v) w → Q (.panic c) a w)
    (hSi : S i = false) (hS : ∀ j, j < ops.size → S j = true → waitsT ops i ops.size j = true) (f : Nat) :
    ∀ (listed : Array Bool) (a : Act) (w : World), closedL ops listed → G w →
      (∀ j oj, ops[j]? = some oj → j ≠ i → listed.getD j true = false → (∀ e ∈ oj.after, Region.binds .any e = true → e.on ≠ i) → o.apart ops oj = true) →
      i ∈ Region.ready .any ops listed → YRelG P ops G o v a → (∀ u, Below w.heap.size w u → wpCG r n P ops G S Q f (listed.setIfInBounds i true) (a.put o.dst v) u) →
      ∀ u, Below w.heap.size w u → wpCG r n P ops G S Q (f + 1) listed a u := by
  have hsel := Region.noSelect_spec hns
  induction f with
  | zero =>
    intro listed a w _ hw _ hr hy H u hu
    refine ⟨fun h => (by rw [h] at hr; cases hr), fun j hj => ?_⟩
    by_cases e : j = i
    · subst e
      rw [hSi]
      exact hy.op hG hd hi (hG _ _ hw hu) fun u' hu' => H u' (below_then hu hu')
    · have h1 := ready_mono hj e
      rw [(H u hu).1] at h1
      cases h1
  | succ f ih =>
    intro listed a w hcl hw hfree hr hy H u hu
    refine ⟨fun h => (by rw [h] at hr; cases hr), fun j hj => ?_⟩
    by_cases e : j = i
    · subst e
      rw [hSi]
      exact hy.op hG hd hi (hG _ _ hw hu) fun u' hu' => H u' (below_then hu hu')
    · obtain ⟨hun, _⟩ := mem_ready.1 hr
      obtain ⟨huj, oj, hoj, hdone⟩ := mem_ready.1 hj
      have hfar : ∀ x ∈ oj.after, Region.binds .any x = true → x.on ≠ i := by
        intro x hx hb hxi
        have := hdone x hx hb
        rw [hxi] at this
        rcases Nat.lt_or_ge i listed.size with hl | hl
        · simp [hl] at hun this; rw [hun] at this; cases this
        · simp [Array.getElem?_eq_none hl] at hun
      have hSj : S j = false := by
        cases hs : S j with
        | false => rfl
        | true =>
          have h9 := waitsT_listed hcl ops.size j (hS j (Array.getElem?_eq_some_iff.1 hoj).1 hs) (fun o ho e he hb => by rw [hoj] at ho; cases ho; exact hdone e he hb)
          rcases Nat.lt_or_ge i listed.size with hl | hl
          · simp [hl] at hun h9; rw [hun] at h9; cases h9
          · simp [Array.getElem?_eq_none hl] at hun
      have h2 := boxedG_put (r := r) (n := n) hd hoj (hfree j oj hoj e huj hfar) (fun cs b => hsel i o cs b hi) (fun cs b => hsel j oj cs b hoj) (fun c a' w' => hQ c a' _ _ w') hy ((H u hu).2 j (ready_mono hj e))
      rw [hSj] at h2 ⊢
      refine wpOpIn_mono (fun a' w' hb => ?_) h2
      obtain ⟨hy', hb', hall⟩ := hb
      refine ⟨hb', fun u' hu' => ih (listed.setIfInBounds j true) a' w' (hcl.set hj) hb' (fun m om hm hmi hum hnm => ?_) (ready_mono hr (Ne.symm e)) hy' (fun u'' hu'' => ?_) u' hu'⟩
      · have hum' : listed.getD m true = false := by
          by_cases e2 : j = m
          · subst e2; exact huj
          · rw [getD_set_ne true e2] at hum; exact hum
        exact hfree m om hm hmi hum' hnm
      · rw [Array.setIfInBounds_comm _ _ e]; exact hall u'' hu''

/-- The closing operations, one after the other. -/
theorem wpCG.close : ∀ (cs : List Nat) (listed : Array Bool) (a : Act) (w : World), cs.all (fun i => decide (i < ops.size)) = true → cs.all S = true → seqI ops cs listed = true → wpListIn (Fr r) n P ops Q (pick ops cs) a w → wpCG r n P ops G S Q cs.length listed a w
  | [], listed, a, w, _, _, hB, h => ⟨by simpa [seqI] using hB, h⟩
  | i :: cs, listed, a, w, hl, hs, hB, h => by
    simp only [List.all_cons, Bool.and_eq_true, decide_eq_true_eq] at hl hs
    obtain ⟨o, ho⟩ : ∃ o, ops[i]? = some o := ⟨_, Array.getElem?_eq_getElem hl.1⟩
    rw [pick_cons ho] at h
    simp only [seqI, Bool.and_eq_true, decide_eq_true_eq] at hB
    refine ⟨fun h1 => (by rw [hB.1] at h1; cases h1), fun j hj => ?_⟩
    rw [hB.1] at hj
    obtain rfl : j = i := by simpa using hj
    rw [hs.1]
    unfold wpOpIn
    unfold wpListIn at h
    simp only [ho]
    cases hw : Region.wanted o (yielded ops a.tmps) with
    | true =>
      simp only [hw, if_true] at h ⊢
      exact Oper.wpIn_mono (fun a' w' hb => wpCG.close cs _ a' w' hl.2 hs.2 hB.2 hb) h
    | false =>
      simp only [hw, Bool.false_eq_true, if_false] at h ⊢
      exact ⟨fun _ _ => trivial, wpCG.close cs _ _ w hl.2 hs.2 hB.2 h.2⟩
/-- The forced ones: in each world that has grown out of the one that an operation left; then the closing ones. -/
def wpMidG (r : Option Nat) (n : Nat) (P : Program) (G : World → Prop) (Q : Exit → Act → World → Prop) (E : Act → World → Prop) : List Oper → Act → World → Prop
  | [], a, w => E a w
  | o :: rest, a, w => o.guard = none ∧ o.wpIn (Fr r) n P a w (BoxedG G (wpMidG r n P G Q E rest)) Q
theorem wpCG.mid {cs : List Nat} {E : Act → World → Prop} (hend : ∀ listed a w, seqI ops cs listed = true → E a w → wpCG r n P ops G S Q cs.length listed a w) :
    ∀ (ts : List Nat) (listed : Array Bool) (a : Act) (w : World), ts.all (fun i => decide (i < ops.size)) = true → ts.all (fun i => !S i) = true → seqI ops (ts ++ cs) listed = true → wpMidG r n P G Q E (pick ops ts) a w → wpCG r n P ops G S Q (ts.length + cs.length) listed a w
  | [], listed, a, w, _, _, hB, h => by rw [List.length_nil, Nat.zero_add]; exact hend listed a w hB h
  | i :: ts, listed, a, w, hl, hs, hB, h => by
    simp only [List.all_cons, Bool.and_eq_true, decide_eq_true_eq, Bool.not_eq_true'] at hl hs
    obtain ⟨o, ho⟩ : ∃ o, ops[i]? = some o := ⟨_, Array.getElem?_eq_getElem hl.1⟩
    rw [pick_cons ho] at h
    obtain ⟨hg, h⟩ := h
    simp only [List.cons_append, seqI, Bool.and_eq_true, decide_eq_true_eq] at hB
    rw [List.length_cons, Nat.add_right_comm]
    refine ⟨fun h1 => (by rw [hB.1] at h1; cases h1), fun j hj => ?_⟩
    rw [hB.1] at hj
    obtain rfl : j = i := by simpa using hj
    rw [hs.1]
    unfold wpOpIn
    simp only [ho, Region.wanted, hg, if_true]
    exact Oper.wpIn_mono (fun a' w' hb => ⟨hb.1, fun u hu => wpCG.mid hend ts _ a' u hl.2 (by simpa using hs.2) hB.2 (hb.2 u hu)⟩) h

theorem wpCG.headI_ (hG : ∀ u u', G u → Below u.heap.size u u' → G u') (hd : noDefer ops = true) {ts : List Nat} {D : Act → Prop} (hns : Region.noSelect ops = true) (hQ : ∀ c a d v w, Q (.panic c) (Act.put a d v) w → Q (.panic c) a w) (w : World) (hw : G w)
    (hend : ∀ listed a, seqI ops ts listed = true → D a → ∀ u, Below w.heap.size w u → wpCG r n P ops G S Q ts.length listed a u) :
    ∀ (hs : List Nat) (listed : Array Bool) (a : Act), closedL ops listed → hs.all (fun i => decide (i < ops.size)) = true → hs.all (fun i => !S i) = true → (∀ i ∈ hs, ∀ j, j < ops.size → S j = true → waitsT ops i ops.size j = true) →
      headI ops ts hs listed = true → wpRelS P ops G D (pick ops hs) a →
      ∀ u, Below w.heap.size w u → wpCG r n P ops G S Q (hs.length + ts.length) listed a u
  | [], listed, a, _, _, _, _, hB, h, u, hu => by rw [List.length_nil, Nat.zero_add]; exact hend listed a hB h u hu
  | i :: hs, listed, a, hcl, hl, hn, hS, hB, h, u, hu => by
    simp only [List.all_cons, Bool.and_eq_true, decide_eq_true_eq, Bool.not_eq_true'] at hl hn
    obtain ⟨o, ho⟩ : ∃ o, ops[i]? = some o := ⟨_, Array.getElem?_eq_getElem hl.1⟩
    rw [pick_cons ho] at h
    simp only [headI, Bool.and_eq_true] at hB
    obtain ⟨v, hy, hD⟩ := yrelG_of_step h
    rw [List.length_cons, Nat.add_right_comm]
    exact wpCG.first hG hd ho hns hQ hn.1 (hS i (by simp)) (hs.length + ts.length) listed a w hcl hw (Region.free_spec ho hB.1.2) (by simpa using hB.1.1) hy
      (fun u' hu' => wpCG.headI_ hG hd hns hQ w hw hend hs _ _ (hcl.set (by simpa using hB.1.1)) hl.2 (by simpa using hn.2) (fun k hk => hS k (by simp [hk])) hB.2 hD u' hu') u hu

def waitsTB (ops : Array Oper) (hs cs : List Nat) : Bool := cs.all fun j => hs.all fun i => waitsT ops i ops.size j
def pickedTB (ops : Array Oper) (hs ts cs : List Nat) : Bool :=
  Region.noSelect ops && (hs.all fun i => decide (i < ops.size)) && (ts.all fun i => decide (i < ops.size)) && (cs.all fun i => decide (i < ops.size)) && decide (hs.length + (ts ++ cs).length = ops.size) &&
    (hs.all fun i => !cs.contains i) && (ts.all fun i => !cs.contains i) && waitsTB ops hs cs && headI ops (ts ++ cs) hs (Array.replicate ops.size false)
theorem closedL_none (n : Nat) : closedL ops (Array.replicate n false) := fun k _ _ h => by
  rcases Nat.lt_or_ge k n with hk | hk
  · simp [hk] at h
  · simp [Nat.not_lt.2 hk] at h
theorem wpIn_region_picked {id : Nat} {a : Act} {w : World} {l : List Oper} (hs ts cs : List Nat) (hm : P.follows .mixedOrders = true) (hB : (noDefer l.toArray && pickedTB l.toArray hs ts cs) = true) (hQ : ∀ c a d v w, Q (.panic c) (Act.put a d v) w → Q (.panic c) a w)
    (h : wpRelS P l.toArray (Below w.heap.size w) (fun a' => ∀ g : Gr w, wpMidG r n P (Below w.heap.size w) Q (wpListIn (Fr r) n P l.toArray Q (pick l.toArray cs)) (pick l.toArray ts) a' g.val) (pick l.toArray hs) a) : (Code.region id l.toArray true).wpIn (Fr r) n P Q a w := by
  simp only [pickedTB, Bool.and_eq_true, decide_eq_true_eq] at hB
  obtain ⟨hd, ⟨⟨⟨⟨⟨⟨⟨hns, h1⟩, h2⟩, h3⟩, h4⟩, h5⟩, h6⟩, h7⟩, h8⟩ := hB
  have hc : cs.all (fun i => cs.contains i) = true := by simp
  have H := wpCG.headI_ (r := r) (n := n) (Q := Q) (G := Below w.heap.size w) (S := fun i => cs.contains i) (ts := ts ++ cs) (D := fun a' => ∀ g : Gr w, wpMidG r n P (Below w.heap.size w) Q (wpListIn (Fr r) n P l.toArray Q (pick l.toArray cs)) (pick l.toArray ts) a' g.val) (fun u u' a b => below_then a b) hd hns hQ w (Below.refl _ _)
    (fun listed a' hs' hD u hu => by
      rw [List.length_append]
      exact wpCG.mid (cs := cs) (fun li a2 w2 hs2 hE => wpCG.close cs li a2 w2 h3 hc hs2 hE) ts listed a' u h2 h6 hs' (hD ⟨u, hu⟩)) hs _ a (closedL_none _) h1 h5 (fun i hi j _ hSj => List.all_eq_true.1 (List.all_eq_true.1 h7 j (by simpa using hSj)) i hi) h8 h w.drew ((Below.refl _ _).drew)
  refine wpIn_region_any hm ?_
  rw [h4] at H
  exact wpCG.any _ _ _ _ H
theorem wpRelS_of {w0 : World} {D : Act → Prop} : ∀ (l : List Oper) (a : Act), wpRel P ops w0 D l a → wpRelS P ops (Below w0.heap.size w0) D l a
  | [], _, h => h
  | o :: l, a, h => by
    unfold wpRel at h
    unfold wpRelS
    cases hw : Region.wanted o (yielded ops a.tmps) with
    | true =>
      simp only [hw, if_true] at h ⊢
      obtain ⟨v, h1, h2⟩ := h
      exact ⟨v, fun u hu => h1 ⟨u, hu⟩, wpRelS_of l _ h2⟩
    | false =>
      simp only [hw, Bool.false_eq_true, if_false] at h ⊢
      exact wpRelS_of l _ h
/-- The same, over the worlds that have grown out of w. -/
theorem wpIn_region_picked' {id : Nat} {a : Act} {w : World} {l : List Oper} (hs ts cs : List Nat) (hm : P.follows .mixedOrders = true) (hB : (noDefer l.toArray && pickedTB l.toArray hs ts cs) = true) (hQ : ∀ c a d v w, Q (.panic c) (Act.put a d v) w → Q (.panic c) a w)
    (h : (∀ (g : Gr w) b o, b < w.heap.size → g.val.cell? ⟨b, o, none⟩ = w.cell? ⟨b, o, none⟩) →
      wpRel P l.toArray w (fun a' => ∀ g : Gr w, wpMidG r n P (Below w.heap.size w) Q (wpListIn (Fr r) n P l.toArray Q (pick l.toArray cs)) (pick l.toArray ts) a' g.val) (pick l.toArray hs) a) : (Code.region id l.toArray true).wpIn (Fr r) n P Q a w :=
  wpIn_region_picked hs ts cs hm hB hQ (wpRelS_of _ _ (h fun g b o h => g.b.cell (p := ⟨b, o, none⟩) h))
/-- Nothing panics. -/
def noPanic (Q : Exit → Act → World → Prop) : Exit → Act → World → Prop
  | .panic _, _, _ => False
  | e, a, w => Q e a w
theorem wpIn_region_picked_quiet {id : Nat} {a : Act} {w : World} {l : List Oper} (hs ts cs : List Nat) (hm : P.follows .mixedOrders = true) (hB : (noDefer l.toArray && pickedTB l.toArray hs ts cs) = true)
    (h : (∀ (g : Gr w) b o, b < w.heap.size → g.val.cell? ⟨b, o, none⟩ = w.cell? ⟨b, o, none⟩) →
      wpRel P l.toArray w (fun a' => ∀ g : Gr w, wpMidG r n P (Below w.heap.size w) (noPanic Q) (wpListIn (Fr r) n P l.toArray (noPanic Q) (pick l.toArray cs)) (pick l.toArray ts) a' g.val) (pick l.toArray hs) a) : (Code.region id l.toArray true).wpIn (Fr r) n P Q a w := by
  refine wpIn_mono (wpIn_region_picked' (Q := noPanic Q) hs ts cs hm hB (fun c a d v w h => h) h) ?_
  intro e a' w' h
  cases e with
  | panic c => exact h.elim
  | normal => exact h
  | ret => exact h
  | exit id => exact h
  | goto t => exact h
  | outgrown => exact h
end
end Go.Proofs.Ytaaeipjnhjgjdaa
/- A region that draws its order, by a plan: steps that read or call with one value, in the worlds that have come of the present one, and may be taken first; steps that are forced; closing steps. No program is named here. -/
namespace Go.Proofs.Ytaaeipjnhjgjdaa
open Go Go.RowKit

section
variable {P : Program} {ops : Array Oper} {w0 : World} {Q : Exit → Act → World → Prop} {S : Nat → Bool}

theorem wpC.first2 {i : Nat} {o : Oper} {v : Value} (hi : ops[i]? = some o) (hns : Region.noSelect ops = true) (hQ : ∀ c a d v w, Q (.panic c) (Act.put a d v) w → Q (.panic c) a w)
    (hSi : S i = false) (hS : ∀ j, j < ops.size → S j = true → waitsT ops i ops.size j = true) (f : Nat) :
    ∀ (listed : Array Bool) (a : Act) (w : World), closedL ops listed → Below w0.heap.size w0 w →
      (∀ j oj, ops[j]? = some oj → j ≠ i → listed.getD j true = false → (∀ e ∈ oj.after, Region.binds .any e = true → e.on ≠ i) → o.apart ops oj = true) →
      i ∈ Region.ready .any ops listed → YRel P ops w0 o v a → (∀ u, Below w.heap.size w u → wpC P ops w0 S Q f (listed.setIfInBounds i true) (a.put o.dst v) u) →
      ∀ u, Below w.heap.size w u → wpC P ops w0 S Q (f + 1) listed a u := by
  have hsel := Region.noSelect_spec hns
  induction f with
  | zero =>
    intro listed a w _ hw _ hr hy H u hu
    refine ⟨fun h => (by rw [h] at hr; cases hr), fun j hj => ?_⟩
    by_cases e : j = i
    · subst e
      rw [hSi]
      exact hy.op hi (below_then hw hu) fun u' hu' => H u' (below_then hu hu')
    · have h1 := ready_mono hj e
      rw [(H u hu).1] at h1
      cases h1
  | succ f ih =>
    intro listed a w hcl hw hfree hr hy H u hu
    refine ⟨fun h => (by rw [h] at hr; cases hr), fun j hj => ?_⟩
    by_cases e : j = i
    · subst e
      rw [hSi]
      exact hy.op hi (below_then hw hu) fun u' hu' => H u' (below_then hu hu')
    · obtain ⟨hun, _⟩ := mem_ready.1 hr
      obtain ⟨huj, oj, hoj, hdone⟩ := mem_ready.1 hj
      have hfar : ∀ x ∈ oj.after, Region.binds .any x = true → x.on ≠ i := by
        intro x hx hb hxi
        have := hdone x hx hb
        rw [hxi] at this
        rcases Nat.lt_or_ge i listed.size with hl | hl
        · simp [hl] at hun this; rw [hun] at this; cases this
        · simp [Array.getElem?_eq_none hl] at hun
      have hSj : S j = false := by
        cases hs : S j with
        | false => rfl
        | true =>
          have h9 := waitsT_listed hcl ops.size j (hS j (Array.getElem?_eq_some_iff.1 hoj).1 hs) (fun o ho e he hb => by rw [hoj] at ho; cases ho; exact hdone e he hb)
          rcases Nat.lt_or_ge i listed.size with hl | hl
          · simp [hl] at hun h9; rw [hun] at h9; cases h9
          · simp [Array.getElem?_eq_none hl] at hun
      have h2 := boxed_put (w0 := w0) hoj (hfree j oj hoj e huj hfar) (fun cs b => hsel i o cs b hi) (fun cs b => hsel j oj cs b hoj) (fun c a' w' => hQ c a' _ _ w') hy ((H u hu).2 j (ready_mono hj e))
      rw [hSj] at h2 ⊢
      refine wpOp_mono (fun a' w' hb => ?_) h2
      obtain ⟨hy', hb', hall⟩ := hb
      refine ⟨hb', fun u' hu' => ih (listed.setIfInBounds j true) a' w' (hcl.set hj) hb' (fun m om hm hmi hum hnm => ?_) (ready_mono hr (Ne.symm e)) hy' (fun u'' hu'' => ?_) u' hu'⟩
      · have hum' : listed.getD m true = false := by
          by_cases e2 : j = m
          · subst e2; exact huj
          · rw [getD_set_ne true e2] at hum; exact hum
        exact hfree m om hm hmi hum' hnm
      · rw [Array.setIfInBounds_comm _ _ e]; exact hall u'' hu''


theorem BoxS.base {s : Bool} {w1 : World} (hb : Below w0.heap.size w0 w1) {K K' : Act → World → Prop} (hK : ∀ a w, K a w → K' a w) {a : Act} {w : World} (h : BoxS s w1 K a w) : BoxS s w0 K' a w := by
  cases s
  · have h' : Boxed w1 K a w := h
    exact (show Boxed w0 K' a w from ⟨below_then hb h'.1, fun u hu => hK _ _ (h'.2 u hu)⟩)
  · exact hK _ _ h
theorem wpC.base {w1 : World} (hb : Below w0.heap.size w0 w1) : ∀ (f : Nat) (listed : Array Bool) (a : Act) (w : World), wpC P ops w1 S Q f listed a w → wpC P ops w0 S Q f listed a w
  | 0, _, _, _, h => h
  | f + 1, _, _, _, h => ⟨h.1, fun i hi => wpOp_mono (fun _ _ hx => hx.base hb fun a w h => wpC.base hb f _ a w h) (h.2 i hi)⟩
inductive Stp where
  | f (is : List Nat)
  | s (i : Nat)
def Stp.is : Stp → List Nat
  | .f is => is
  | .s i => [i]
def setsL : List Nat → Array Bool → Array Bool
  | [], listed => listed
  | i :: is, listed => setsL is (listed.setIfInBounds i true)
def firstB (ops : Array Oper) : List Nat → Array Bool → Bool
  | [], _ => true
  | i :: is, listed => ((Region.ready .any ops listed).contains i && Region.free .any ops listed i) && firstB ops is (listed.setIfInBounds i true)
def planB (ops : Array Oper) (cs : List Nat) : List Stp → Array Bool → Bool
  | [], listed => seqI ops cs listed
  | .f is :: ps, listed => firstB ops is listed && planB ops cs ps (setsL is listed)
  | .s i :: ps, listed => decide (Region.ready .any ops listed = [i]) && planB ops cs ps (listed.setIfInBounds i true)
def lenP : List Stp → Nat
  | [] => 0
  | .f is :: ps => is.length + lenP ps
  | .s _ :: ps => lenP ps + 1
/-- What is to be shown, step by step. -/
def wpPlan (P : Program) (ops : Array Oper) (Q : Exit → Act → World → Prop) (E : Act → World → Prop) : List Stp → Act → World → Prop
  | [], a, w => E a w
  | .f is :: ps, a, w => wpRel P ops w (fun a' => ∀ u, Below w.heap.size w u → wpPlan P ops Q E ps a' u) (pick ops is) a
  | .s i :: ps, a, w => ∃ o, ops[i]? = some o ∧ o.guard = none ∧ o.wp P a w (Boxed w (wpPlan P ops Q E ps)) Q
theorem wpC.group (hns : Region.noSelect ops = true) (hQ : ∀ c a d v w, Q (.panic c) (Act.put a d v) w → Q (.panic c) a w) {D : Act → Prop} {g : Nat} (w : World) (hw : Below w0.heap.size w0 w) :
    ∀ (is : List Nat) (listed : Array Bool) (a : Act), closedL ops listed → is.all (fun i => decide (i < ops.size)) = true → is.all (fun i => !S i) = true → (∀ i ∈ is, ∀ j, j < ops.size → S j = true → waitsT ops i ops.size j = true) → firstB ops is listed = true →
      (closedL ops (setsL is listed) → ∀ a', D a' → ∀ u, Below w.heap.size w u → wpC P ops w0 S Q g (setsL is listed) a' u) → wpRel P ops w0 D (pick ops is) a → ∀ u, Below w.heap.size w u → wpC P ops w0 S Q (is.length + g) listed a u
  | [], listed, a, hcl, _, _, _, _, hend, h, u, hu => by rw [List.length_nil, Nat.zero_add]; exact hend hcl a h u hu
  | i :: is, listed, a, hcl, hl, hn, hS, hB, hend, h, u, hu => by
    simp only [List.all_cons, Bool.and_eq_true, decide_eq_true_eq, Bool.not_eq_true'] at hl hn
    obtain ⟨o, ho⟩ : ∃ o, ops[i]? = some o := ⟨_, Array.getElem?_eq_getElem hl.1⟩
    rw [pick_cons ho] at h
    simp only [firstB, Bool.and_eq_true] at hB
    have hri : i ∈ Region.ready .any ops listed := by simpa using hB.1.1
    obtain ⟨v, hy, hD⟩ := yrel_of_step h
    rw [List.length_cons, Nat.add_right_comm]
    exact wpC.first2 ho hns hQ hn.1 (hS i (by simp)) (is.length + g) listed a w hcl hw (Region.free_spec ho hB.1.2) hri hy
      (fun u' hu' => wpC.group hns hQ w hw is _ _ (hcl.set hri) hl.2 (by simpa using hn.2) (fun k hk => hS k (by simp [hk])) hB.2 hend hD u' hu') u hu
theorem wpC.plan {cs : List Nat} {E : Act → World → Prop} (hns : Region.noSelect ops = true) (hQ : ∀ c a d v w, Q (.panic c) (Act.put a d v) w → Q (.panic c) a w)
    (hend : ∀ listed a w, seqI ops cs listed = true → E a w → ∀ w1, wpC P ops w1 S Q cs.length listed a w) :
    ∀ (ps : List Stp) (listed : Array Bool) (a : Act) (w : World), closedL ops listed → ps.all (fun p => p.is.all fun i => decide (i < ops.size)) = true → ps.all (fun p => p.is.all fun i => !S i) = true → (∀ p ∈ ps, ∀ i ∈ p.is, ∀ j, j < ops.size → S j = true → waitsT ops i ops.size j = true) →
      planB ops cs ps listed = true → wpPlan P ops Q E ps a w → wpC P ops w S Q (lenP ps + cs.length) listed a w
  | [], listed, a, w, _, _, _, _, hB, h => by rw [lenP, Nat.zero_add]; exact hend listed a w hB h w
  | .f is :: ps, listed, a, w, hcl, hl, hn, hS, hB, h => by
    rw [List.all_cons, Bool.and_eq_true] at hl hn
    simp only [planB, Bool.and_eq_true] at hB
    rw [lenP, Nat.add_assoc]
    refine wpC.group hns hQ w (Below.refl _ _) is listed a hcl hl.1 hn.1 (fun i hi => hS _ (List.mem_cons_self ..) i hi) hB.1 (fun hcl2 a' hD u hu => ?_) h w (Below.refl _ _)
    exact wpC.base hu _ _ _ _ (wpC.plan hns hQ hend ps _ _ u hcl2 hl.2 hn.2 (fun p hp => hS p (List.mem_cons_of_mem _ hp)) hB.2 (hD u hu))
  | .s i :: ps, listed, a, w, hcl, hl, hn, hS, hB, h => by
    rw [List.all_cons, Bool.and_eq_true] at hl hn
    have hSi : S i = false := by have := hn.1; simpa [Stp.is] using this
    obtain ⟨o, ho, hg, h⟩ := h
    simp only [planB, Bool.and_eq_true, decide_eq_true_eq] at hB
    rw [lenP, Nat.add_right_comm]
    have hri : i ∈ Region.ready .any ops listed := by rw [hB.1]; simp
    refine ⟨fun h1 => (by rw [hB.1] at h1; cases h1), fun j hj => ?_⟩
    rw [hB.1] at hj
    obtain rfl : j = i := by simpa using hj
    rw [hSi]
    unfold wpOp
    simp only [ho, Region.wanted, hg, if_true]
    refine .inl (Oper.wp_mono (fun a' w' hb => ?_) h)
    exact (show Boxed w _ a' w' from ⟨hb.1, fun u hu => wpC.base (below_then hb.1 hu) _ _ _ _ (wpC.plan hns hQ hend ps _ a' u (hcl.set hri) hl.2 hn.2 (fun p hp => hS p (List.mem_cons_of_mem _ hp)) hB.2 (hb.2 u hu))⟩)
def planTB (ops : Array Oper) (ps : List Stp) (cs : List Nat) : Bool :=
  Region.noSelect ops && (ps.all fun p => p.is.all fun i => decide (i < ops.size)) && (cs.all fun i => decide (i < ops.size)) && decide (lenP ps + cs.length = ops.size) &&
    (ps.all fun p => p.is.all fun i => !cs.contains i) && (ps.all fun p => p.is.all fun i => cs.all fun j => waitsT ops i ops.size j) && planB ops cs ps (Array.replicate ops.size false)
theorem wp_region_plan {id : Nat} {a : Act} {w : World} {l : List Oper} (ps : List Stp) (cs : List Nat) (hm : P.follows .mixedOrders = true) (hB : planTB l.toArray ps cs = true) (hQ : ∀ c a d v w, Q (.panic c) (Act.put a d v) w → Q (.panic c) a w)
    (h : ∀ u, Below w.heap.size w u → wpPlan P l.toArray Q (wpList P l.toArray Q (pick l.toArray cs)) ps a u) : (Code.region id l.toArray true).wp P Q a w := by
  simp only [planTB, Bool.and_eq_true, decide_eq_true_eq] at hB
  obtain ⟨⟨⟨⟨⟨⟨hns, h1⟩, h3⟩, h4⟩, h5⟩, h7⟩, h8⟩ := hB
  have hc : cs.all (fun i => cs.contains i) = true := by simp
  have H := wpC.plan (P := P) (S := fun i => cs.contains i) (cs := cs) (E := wpList P l.toArray Q (pick l.toArray cs)) hns hQ (fun listed a' w' hs hE w1 => wpC.close cs listed a' w' h3 hc hs hE) ps _ a w.drew (closedL_none _) h1 h5
    (fun p hp i hi j _ hSj => List.all_eq_true.1 (List.all_eq_true.1 (List.all_eq_true.1 h7 p hp) i hi) j (by simpa using hSj)) h8 (h _ ((Below.refl _ _).drew))
  refine wp_region_any hm ?_
  rw [h4] at H
  exact wpC.any _ _ _ _ H
end
end Go.Proofs.Ytaaeipjnhjgjdaa
/- A region that draws its order, by a plan, beside an alloc that may come at any time. No program is named here. -/
namespace Go.Proofs.Ytaaeipjnhjgjdaa
open Go Go.RowKit

section
variable {P : Program} {ops : Array Oper} {w0 : World} {Q : Exit → Act → World → Prop} {S : Nat → Bool}

def planBA (ops : Array Oper) (cs : List Nat) (i : Nat) : List Stp → Array Bool → Bool
  | [], listed => decide (Region.ready .any ops listed = [i]) && seqI ops cs (listed.setIfInBounds i true)
  | .f is :: ps, listed => firstB ops is listed && planBA ops cs i ps (setsL is listed)
  | .s j :: ps, listed => !(Region.ready .any ops listed).isEmpty && ((Region.ready .any ops listed).all fun k => k == i || k == j) && (Region.ready .any ops listed).contains i && (Region.ready .any ops listed).contains j && planBA ops cs i ps (listed.setIfInBounds j true) && planB ops cs (.s j :: ps) (listed.setIfInBounds i true)
def wpPlanA (P : Program) (ops : Array Oper) (Q : Exit → Act → World → Prop) (E : Act → World → Prop) (i : Nat) : List Stp → Act → World → Prop
  | [], a, w => ∃ o, ops[i]? = some o ∧ o.guard = none ∧ o.wp P a w (Boxed w E) Q
  | .f is :: ps, a, w => wpRel P ops w (fun a' => ∀ u, Below w.heap.size w u → wpPlanA P ops Q E i ps a' u) (pick ops is) a
  | .s j :: ps, a, w => (∃ o, ops[j]? = some o ∧ o.guard = none ∧ o.wp P a w (Boxed w (wpPlanA P ops Q E i ps)) Q) ∧
      (∃ o, ops[i]? = some o ∧ o.guard = none ∧ o.wp P a w (Boxed w (wpPlan P ops Q E (.s j :: ps))) Q)
theorem wpC.planA {cs : List Nat} {E : Act → World → Prop} {i : Nat} (hns : Region.noSelect ops = true) (hQ : ∀ c a d v w, Q (.panic c) (Act.put a d v) w → Q (.panic c) a w) (hSi : S i = false)
    (hend : ∀ listed a w, seqI ops cs listed = true → E a w → ∀ w1, wpC P ops w1 S Q cs.length listed a w) :
    ∀ (ps : List Stp) (listed : Array Bool) (a : Act) (w : World), closedL ops listed → ps.all (fun p => p.is.all fun i => decide (i < ops.size)) = true → ps.all (fun p => p.is.all fun i => !S i) = true → (∀ p ∈ ps, ∀ i ∈ p.is, ∀ j, j < ops.size → S j = true → waitsT ops i ops.size j = true) →
      planBA ops cs i ps listed = true → wpPlanA P ops Q E i ps a w → wpC P ops w S Q (lenP ps + cs.length + 1) listed a w
  | [], listed, a, w, hcl, _, _, _, hB, h => by
    obtain ⟨o, ho, hg, h⟩ := h
    simp only [planBA, Bool.and_eq_true, decide_eq_true_eq] at hB
    rw [lenP, Nat.zero_add]
    refine ⟨fun h1 => (by rw [hB.1] at h1; cases h1), fun j hj => ?_⟩
    rw [hB.1] at hj
    obtain rfl : j = i := by simpa using hj
    rw [hSi]
    unfold wpOp
    simp only [ho, Region.wanted, hg, if_true]
    refine .inl (Oper.wp_mono (fun a' w' hb => ?_) h)
    exact (show Boxed w _ a' w' from ⟨hb.1, fun u hu => hend _ a' u hB.2 (hb.2 u hu) w⟩)
  | .f is :: ps, listed, a, w, hcl, hl, hn, hS, hB, h => by
    rw [List.all_cons, Bool.and_eq_true] at hl hn
    simp only [planBA, Bool.and_eq_true] at hB
    rw [lenP, Nat.add_assoc, Nat.add_assoc]
    refine wpC.group hns hQ w (Below.refl _ _) is listed a hcl hl.1 hn.1 (fun i hi => hS _ (List.mem_cons_self ..) i hi) hB.1 (fun hcl2 a' hD u hu => ?_) h w (Below.refl _ _)
    rw [← Nat.add_assoc]
    exact wpC.base hu _ _ _ _ (wpC.planA hns hQ hSi hend ps _ _ u hcl2 hl.2 hn.2 (fun p hp => hS p (List.mem_cons_of_mem _ hp)) hB.2 (hD u hu))
  | .s j :: ps, listed, a, w, hcl, hl, hn, hS, hB, h => by
    have hl0 := hl
    have hn0 := hn
    rw [List.all_cons, Bool.and_eq_true] at hl hn
    have hSj : S j = false := by have := hn.1; simpa [Stp.is] using this
    obtain ⟨⟨o, ho, hg, h⟩, ⟨o2, ho2, hg2, h2⟩⟩ := h
    simp only [planBA, Bool.and_eq_true, Bool.not_eq_true', List.all_eq_true, Bool.or_eq_true, beq_iff_eq] at hB
    obtain ⟨⟨⟨⟨⟨b1, b2⟩, b3⟩, b4⟩, b5⟩, b6⟩ := hB
    rw [show lenP (.s j :: ps) + cs.length + 1 = (lenP ps + cs.length + 1) + 1 by rw [lenP]; omega]
    have hri : i ∈ Region.ready .any ops listed := by simpa using b3
    have hrj : j ∈ Region.ready .any ops listed := by simpa using b4
    refine ⟨fun h1 => (by rw [h1] at b1; cases b1), fun k hk => ?_⟩
    by_cases e : k = j
    · subst e
      rw [hSj]
      unfold wpOp
      simp only [ho, Region.wanted, hg, if_true]
      refine .inl (Oper.wp_mono (fun a' w' hb => ?_) h)
      exact (show Boxed w _ a' w' from ⟨hb.1, fun u hu => wpC.base (below_then hb.1 hu) _ _ _ _ (wpC.planA hns hQ hSi hend ps _ a' u (hcl.set hrj) hl.2 hn.2 (fun p hp => hS p (List.mem_cons_of_mem _ hp)) b5 (hb.2 u hu))⟩)
    · obtain rfl : k = i := by
        rcases b2 k hk with h3 | h3
        · exact h3
        · exact absurd h3 e
      rw [hSi]
      unfold wpOp
      simp only [ho2, Region.wanted, hg2, if_true]
      refine .inl (Oper.wp_mono (fun a' w' hb => ?_) h2)
      refine (show Boxed w _ a' w' from ⟨hb.1, fun u hu => wpC.base (below_then hb.1 hu) _ _ _ _ ?_⟩)
      have h5 := wpC.plan hns hQ hend (.s j :: ps) _ a' u (hcl.set hri) hl0 hn0 hS b6 (hb.2 u hu)
      rw [show lenP (.s j :: ps) + cs.length = lenP ps + cs.length + 1 by rw [lenP]; omega] at h5
      exact h5
def planTBA (ops : Array Oper) (i : Nat) (ps : List Stp) (cs : List Nat) : Bool :=
  Region.noSelect ops && (ps.all fun p => p.is.all fun i => decide (i < ops.size)) && (cs.all fun i => decide (i < ops.size)) && decide (lenP ps + cs.length + 1 = ops.size) &&
    (ps.all fun p => p.is.all fun i => !cs.contains i) && (ps.all fun p => p.is.all fun i => cs.all fun j => waitsT ops i ops.size j) && !cs.contains i && planBA ops cs i ps (Array.replicate ops.size false)
theorem wp_region_planA {id : Nat} {a : Act} {w : World} {l : List Oper} (i : Nat) (ps : List Stp) (cs : List Nat) (hm : P.follows .mixedOrders = true) (hB : planTBA l.toArray i ps cs = true) (hQ : ∀ c a d v w, Q (.panic c) (Act.put a d v) w → Q (.panic c) a w)
    (h : ∀ u, Below w.heap.size w u → wpPlanA P l.toArray Q (wpList P l.toArray Q (pick l.toArray cs)) i ps a u) : (Code.region id l.toArray true).wp P Q a w := by
  simp only [planTBA, Bool.and_eq_true, decide_eq_true_eq] at hB
  obtain ⟨⟨⟨⟨⟨⟨⟨hns, h1⟩, h3⟩, h4⟩, h5⟩, h7⟩, h6⟩, h8⟩ := hB
  have hc : cs.all (fun i => cs.contains i) = true := by simp
  have H := wpC.planA (P := P) (S := fun i => cs.contains i) (cs := cs) (i := i) (E := wpList P l.toArray Q (pick l.toArray cs)) hns hQ (by simpa using h6) (fun listed a' w' hs hE w1 => wpC.close cs listed a' w' h3 hc hs hE) ps _ a w.drew (closedL_none _) h1 h5
    (fun p hp i hi j _ hSj => List.all_eq_true.1 (List.all_eq_true.1 (List.all_eq_true.1 h7 p hp) i hi) j (by simpa using hSj)) h8 (h _ ((Below.refl _ _).drew))
  refine wp_region_any hm ?_
  rw [h4] at H
  exact wpC.any _ _ _ _ H
end
end Go.Proofs.Ytaaeipjnhjgjdaa
/- A region that draws its order, by a plan, beside an alloc that may come at any time, then pure steps (moves and extracts) that may come at any time after. No program is named here. -/
namespace Go.Proofs.Ytaaeipjnhjgjdaa
open Go Go.RowKit

section
variable {P : Program} {ops : Array Oper} {w0 : World} {Q : Exit → Act → World → Prop} {S : Nat → Bool}

/-- Operation o leaves v, in every world, and does nothing else. -/
def YP (P : Program) (ops : Array Oper) (o : Oper) (v : Value) (a : Act) : Prop := Region.wanted o (yielded ops a.tmps) = true ∧ ∀ u, (execOp a.eval o).run P u = .ok (.value v) u
theorem YP.same {o : Oper} {v : Value} {a a' : Act} (h : YP P ops o v a) (he : execOp a'.eval o = execOp a.eval o) (hw : Region.wanted o (yielded ops a'.tmps) = Region.wanted o (yielded ops a.tmps)) : YP P ops o v a' := by
  unfold YP at *
  rw [he, hw]
  exact h
theorem YP.op {i : Nat} {o : Oper} {v : Value} {a : Act} (hi : ops[i]? = some o) (h : YP P ops o v a) {K : Act → World → Prop} {u : World} (hK : K (a.put o.dst v) u) : wpOp P ops Q i K a u := by
  obtain ⟨hw, hr⟩ := h
  unfold wpOp
  simp only [hi, hw, if_true]
  refine .inl ?_
  unfold Oper.wp
  rw [hr u]
  exact hK
/-- Another operation, apart from o: it makes no difference whether o's value is there already. -/
theorem pure_put {j : Nat} {oi oj : Oper} {v : Value} (hj : ops[j]? = some oj) (hap : oi.apart ops oj = true) (hsi : ∀ cs b, oi.op ≠ .select cs b) (hsj : ∀ cs b, oj.op ≠ .select cs b)
    (hQ : ∀ c a w, Q (.panic c) (a.put oi.dst v) w → Q (.panic c) a w) {K : Act → World → Prop} {a : Act} {w : World} (hy : YP P ops oi v a) (h : wpOp P ops Q j K (a.put oi.dst v) w) :
    wpOp P ops Q j (fun a' w' => YP P ops oi v a' ∧ K (a'.put oi.dst v) w') a w := by
  obtain ⟨h1, h2, h3⟩ := Oper.apart_spec hap
  have keep : ∀ u, YP P ops oi v (a.put oj.dst u) := fun u => hy.same (execOp_put oi hsi a oj.dst u h3) (wanted_put oi a oj.dst u h3)
  have back : ∀ u, (a.put oi.dst v).put oj.dst u = (a.put oj.dst u).put oi.dst v := fun u => Act.put_comm a v u h2
  unfold wpOp at *
  simp only [hj] at *
  rw [wanted_put oj a oi.dst v h1] at h
  cases hw : Region.wanted oj (yielded ops a.tmps) with
  | false =>
    simp only [hw, Bool.false_eq_true, if_false] at h ⊢
    exact ⟨keep _, by rw [← back]; exact h⟩
  | true =>
    simp only [hw, if_true] at h ⊢
    rcases h with h | ⟨ha, hl⟩
    · refine .inl ?_
      unfold Oper.wp at *
      rw [execOp_put oj hsj a oi.dst v h1] at h
      generalize (execOp a.eval oj).run P w = r at *
      match r, h with
      | .ok (.value u) w', h => exact ⟨keep u, by rw [← back]; exact h⟩
      | .ok .skip w', h => exact ⟨keep _, by rw [← back]; exact h⟩
      | .ok (.defer d) w', h =>
        refine ⟨YP.same (a := a) (hy) ?_ ?_, ?_⟩
        · exact execOp_put oi hsi { a with defers := d :: a.defers } oj.dst undef h3
        · exact wanted_put oi { a with defers := d :: a.defers } oj.dst undef h3
        · have e := Act.put_comm { a with defers := d :: a.defers } v undef h2
          rw [← e, ← Act.put_defers]
          exact h
      | .ok (.enter f args) w', h =>
        refine Calls.mono h fun e w'' he => ?_
        match e, he with
        | .returned u, he => exact ⟨keep u, by rw [← back]; exact he⟩
        | .panicked c, he => exact hQ _ _ _ he
        | .outgrown, he => exact he
      | .ok (.row row args) w', h => exact Rows.mono h fun u w'' he => ⟨keep u, by rw [← back]; exact he⟩
      | .halt (.panic u) w', h => exact hQ _ _ _ h
    · refine .inr ⟨?_, hl⟩
      unfold Oper.asks at *
      rw [execOp_put oj hsj a oi.dst v h1] at ha
      exact ha


theorem wpC.pure {i : Nat} {o : Oper} {v : Value} (hi : ops[i]? = some o) (hns : Region.noSelect ops = true) (hQ : ∀ c a d v w, Q (.panic c) (Act.put a d v) w → Q (.panic c) a w) (hSi : S i = true) (f : Nat) :
    ∀ (listed : Array Bool) (a : Act) (w : World),
      (∀ j oj, ops[j]? = some oj → j ≠ i → listed.getD j true = false → (∀ e ∈ oj.after, Region.binds .any e = true → e.on ≠ i) → o.apart ops oj = true) →
      i ∈ Region.ready .any ops listed → YP P ops o v a → wpC P ops w0 S Q f (listed.setIfInBounds i true) (a.put o.dst v) w → wpC P ops w0 S Q (f + 1) listed a w := by
  have hsel := Region.noSelect_spec hns
  induction f with
  | zero =>
    intro listed a w _ hr hy H
    refine ⟨fun h => (by rw [h] at hr; cases hr), fun j hj => ?_⟩
    by_cases e : j = i
    · subst e
      rw [hSi]
      exact hy.op hi H
    · have h1 := ready_mono hj e
      rw [H.1] at h1
      cases h1
  | succ f ih =>
    intro listed a w hfree hr hy H
    refine ⟨fun h => (by rw [h] at hr; cases hr), fun j hj => ?_⟩
    by_cases e : j = i
    · subst e
      rw [hSi]
      exact hy.op hi H
    · obtain ⟨hun, _⟩ := mem_ready.1 hr
      obtain ⟨huj, oj, hoj, hdone⟩ := mem_ready.1 hj
      have hfar : ∀ x ∈ oj.after, Region.binds .any x = true → x.on ≠ i := by
        intro x hx hb hxi
        have := hdone x hx hb
        rw [hxi] at this
        rcases Nat.lt_or_ge i listed.size with hl | hl
        · simp [hl] at hun this; rw [hun] at this; cases this
        · simp [Array.getElem?_eq_none hl] at hun
      have h2 := pure_put hoj (hfree j oj hoj e huj hfar) (fun cs b => hsel i o cs b hi) (fun cs b => hsel j oj cs b hoj) (fun c a' w' => hQ c a' _ _ w') hy (H.2 j (ready_mono hj e))
      have step : ∀ a' w', YP P ops o v a' → wpC P ops w0 S Q f ((listed.setIfInBounds i true).setIfInBounds j true) (a'.put o.dst v) w' → wpC P ops w0 S Q (f + 1) (listed.setIfInBounds j true) a' w' := fun a' w' hy' hall => by
        refine ih (listed.setIfInBounds j true) a' w' (fun m om hm hmi hum hnm => ?_) (ready_mono hr (Ne.symm e)) hy' ?_
        · have hum' : listed.getD m true = false := by
            by_cases e2 : j = m
            · subst e2; exact huj
            · rw [getD_set_ne true e2] at hum; exact hum
          exact hfree m om hm hmi hum' hnm
        · rw [Array.setIfInBounds_comm _ _ e]; exact hall
      refine wpOp_mono (fun a' w' hb => ?_) h2
      obtain ⟨hy', hb⟩ := hb
      cases hs : S j with
      | true => rw [hs] at hb; exact step a' w' hy' hb
      | false => rw [hs] at hb; exact (show Boxed w0 _ a' w' from ⟨hb.1, fun u hu => step a' u hy' (hb.2 u hu)⟩)
def wpPure (P : Program) (D : Act → Prop) : List Oper → Act → Prop
  | [], a => D a
  | o :: rest, a => o.guard = none ∧ ∃ v, (∀ u, (execOp a.eval o).run P u = .ok (.value v) u) ∧ wpPure P D rest (a.put o.dst v)
theorem wpC.pures (hns : Region.noSelect ops = true) (hQ : ∀ c a d v w, Q (.panic c) (Act.put a d v) w → Q (.panic c) a w) {D : Act → Prop} {g : Nat} (w : World) :
    ∀ (is : List Nat) (listed : Array Bool) (a : Act), is.all (fun i => decide (i < ops.size)) = true → is.all S = true → firstB ops is listed = true →
      (∀ a', D a' → wpC P ops w0 S Q g (setsL is listed) a' w) → wpPure P D (pick ops is) a → wpC P ops w0 S Q (is.length + g) listed a w
  | [], listed, a, _, _, _, hend, h => by rw [List.length_nil, Nat.zero_add]; exact hend a h
  | i :: is, listed, a, hl, hs, hB, hend, h => by
    simp only [List.all_cons, Bool.and_eq_true, decide_eq_true_eq] at hl hs
    obtain ⟨o, ho⟩ : ∃ o, ops[i]? = some o := ⟨_, Array.getElem?_eq_getElem hl.1⟩
    rw [pick_cons ho] at h
    simp only [firstB, Bool.and_eq_true] at hB
    have hri : i ∈ Region.ready .any ops listed := by simpa using hB.1.1
    obtain ⟨hg, v, hy, hD⟩ := h
    rw [List.length_cons, Nat.add_right_comm]
    exact wpC.pure ho hns hQ hs.1 (is.length + g) listed a w (Region.free_spec ho hB.1.2) hri ⟨by simp [Region.wanted, hg], hy⟩
      (wpC.pures hns hQ w is _ _ hl.2 hs.2 hB.2 hend hD)
def planBG (ops : Array Oper) (endB : Array Bool → Bool) : List Stp → Array Bool → Bool
  | [], listed => endB listed
  | .f is :: ps, listed => firstB ops is listed && planBG ops endB ps (setsL is listed)
  | .s i :: ps, listed => decide (Region.ready .any ops listed = [i]) && planBG ops endB ps (listed.setIfInBounds i true)
def planBAG (ops : Array Oper) (endB endBA : Array Bool → Bool) (i : Nat) : List Stp → Array Bool → Bool
  | [], listed => endBA listed
  | .f is :: ps, listed => firstB ops is listed && planBAG ops endB endBA i ps (setsL is listed)
  | .s j :: ps, listed => !(Region.ready .any ops listed).isEmpty && ((Region.ready .any ops listed).all fun k => k == i || k == j) && (Region.ready .any ops listed).contains i && (Region.ready .any ops listed).contains j && planBAG ops endB endBA i ps (listed.setIfInBounds j true) && planBG ops endB (.s j :: ps) (listed.setIfInBounds i true)
def wpPlanAG (P : Program) (ops : Array Oper) (Q : Exit → Act → World → Prop) (E EA : Act → World → Prop) (i : Nat) : List Stp → Act → World → Prop
  | [], a, w => EA a w
  | .f is :: ps, a, w => wpRel P ops w (fun a' => ∀ u, Below w.heap.size w u → wpPlanAG P ops Q E EA i ps a' u) (pick ops is) a
  | .s j :: ps, a, w => (∃ o, ops[j]? = some o ∧ o.guard = none ∧ o.wp P a w (Boxed w (wpPlanAG P ops Q E EA i ps)) Q) ∧
      (∃ o, ops[i]? = some o ∧ o.guard = none ∧ o.wp P a w (Boxed w (wpPlan P ops Q E (.s j :: ps))) Q)
theorem wpC.planG {n : Nat} {endB : Array Bool → Bool} {E : Act → World → Prop} (hns : Region.noSelect ops = true) (hQ : ∀ c a d v w, Q (.panic c) (Act.put a d v) w → Q (.panic c) a w)
    (hend : ∀ listed a w, endB listed = true → E a w → wpC P ops w S Q n listed a w) :
    ∀ (ps : List Stp) (listed : Array Bool) (a : Act) (w : World), closedL ops listed → ps.all (fun p => p.is.all fun i => decide (i < ops.size)) = true → ps.all (fun p => p.is.all fun i => !S i) = true → (∀ p ∈ ps, ∀ i ∈ p.is, ∀ j, j < ops.size → S j = true → waitsT ops i ops.size j = true) →
      planBG ops endB ps listed = true → wpPlan P ops Q E ps a w → wpC P ops w S Q (lenP ps + n) listed a w
  | [], listed, a, w, _, _, _, _, hB, h => by rw [lenP, Nat.zero_add]; exact hend listed a w hB h
  | .f is :: ps, listed, a, w, hcl, hl, hn, hS, hB, h => by
    rw [List.all_cons, Bool.and_eq_true] at hl hn
    simp only [planBG, Bool.and_eq_true] at hB
    rw [lenP, Nat.add_assoc]
    refine wpC.group hns hQ w (Below.refl _ _) is listed a hcl hl.1 hn.1 (fun i hi => hS _ (List.mem_cons_self ..) i hi) hB.1 (fun hcl2 a' hD u hu => ?_) h w (Below.refl _ _)
    exact wpC.base hu _ _ _ _ (wpC.planG hns hQ hend ps _ _ u hcl2 hl.2 hn.2 (fun p hp => hS p (List.mem_cons_of_mem _ hp)) hB.2 (hD u hu))
  | .s i :: ps, listed, a, w, hcl, hl, hn, hS, hB, h => by
    rw [List.all_cons, Bool.and_eq_true] at hl hn
    have hSi : S i = false := by have := hn.1; simpa [Stp.is] using this
    obtain ⟨o, ho, hg, h⟩ := h
    simp only [planBG, Bool.and_eq_true, decide_eq_true_eq] at hB
    rw [lenP, Nat.add_right_comm]
    have hri : i ∈ Region.ready .any ops listed := by rw [hB.1]; simp
    refine ⟨fun h1 => (by rw [hB.1] at h1; cases h1), fun j hj => ?_⟩
    rw [hB.1] at hj
    obtain rfl : j = i := by simpa using hj
    rw [hSi]
    unfold wpOp
    simp only [ho, Region.wanted, hg, if_true]
    refine .inl (Oper.wp_mono (fun a' w' hb => ?_) h)
    exact (show Boxed w _ a' w' from ⟨hb.1, fun u hu => wpC.base (below_then hb.1 hu) _ _ _ _ (wpC.planG hns hQ hend ps _ a' u (hcl.set hri) hl.2 hn.2 (fun p hp => hS p (List.mem_cons_of_mem _ hp)) hB.2 (hb.2 u hu))⟩)
theorem wpC.planAG {n : Nat} {endB endBA : Array Bool → Bool} {E EA : Act → World → Prop} {i : Nat} (hns : Region.noSelect ops = true) (hQ : ∀ c a d v w, Q (.panic c) (Act.put a d v) w → Q (.panic c) a w) (hSi : S i = false)
    (hend : ∀ listed a w, endB listed = true → E a w → wpC P ops w S Q n listed a w)
    (hendA : ∀ listed a w, endBA listed = true → EA a w → wpC P ops w S Q (n + 1) listed a w) :
    ∀ (ps : List Stp) (listed : Array Bool) (a : Act) (w : World), closedL ops listed → ps.all (fun p => p.is.all fun i => decide (i < ops.size)) = true → ps.all (fun p => p.is.all fun i => !S i) = true → (∀ p ∈ ps, ∀ i ∈ p.is, ∀ j, j < ops.size → S j = true → waitsT ops i ops.size j = true) →
      planBAG ops endB endBA i ps listed = true → wpPlanAG P ops Q E EA i ps a w → wpC P ops w S Q (lenP ps + (n + 1)) listed a w
  | [], listed, a, w, hcl, _, _, _, hB, h => by rw [lenP, Nat.zero_add]; exact hendA listed a w hB h
  | .f is :: ps, listed, a, w, hcl, hl, hn, hS, hB, h => by
    rw [List.all_cons, Bool.and_eq_true] at hl hn
    simp only [planBAG, Bool.and_eq_true] at hB
    rw [lenP, Nat.add_assoc]
    refine wpC.group hns hQ w (Below.refl _ _) is listed a hcl hl.1 hn.1 (fun i hi => hS _ (List.mem_cons_self ..) i hi) hB.1 (fun hcl2 a' hD u hu => ?_) h w (Below.refl _ _)
    exact wpC.base hu _ _ _ _ (wpC.planAG hns hQ hSi hend hendA ps _ _ u hcl2 hl.2 hn.2 (fun p hp => hS p (List.mem_cons_of_mem _ hp)) hB.2 (hD u hu))
  | .s j :: ps, listed, a, w, hcl, hl, hn, hS, hB, h => by
    have hl0 := hl
    have hn0 := hn
    rw [List.all_cons, Bool.and_eq_true] at hl hn
    have hSj : S j = false := by have := hn.1; simpa [Stp.is] using this
    obtain ⟨⟨o, ho, hg, h⟩, ⟨o2, ho2, hg2, h2⟩⟩ := h
    simp only [planBAG, Bool.and_eq_true, Bool.not_eq_true', List.all_eq_true, Bool.or_eq_true, beq_iff_eq] at hB
    obtain ⟨⟨⟨⟨⟨b1, b2⟩, b3⟩, b4⟩, b5⟩, b6⟩ := hB
    rw [show lenP (.s j :: ps) + (n + 1) = (lenP ps + (n + 1)) + 1 by rw [lenP]; omega]
    have hri : i ∈ Region.ready .any ops listed := by simpa using b3
    have hrj : j ∈ Region.ready .any ops listed := by simpa using b4
    refine ⟨fun h1 => (by rw [h1] at b1; cases b1), fun k hk => ?_⟩
    by_cases e : k = j
    · subst e
      rw [hSj]
      unfold wpOp
      simp only [ho, Region.wanted, hg, if_true]
      refine .inl (Oper.wp_mono (fun a' w' hb => ?_) h)
      exact (show Boxed w _ a' w' from ⟨hb.1, fun u hu => wpC.base (below_then hb.1 hu) _ _ _ _ (wpC.planAG hns hQ hSi hend hendA ps _ a' u (hcl.set hrj) hl.2 hn.2 (fun p hp => hS p (List.mem_cons_of_mem _ hp)) b5 (hb.2 u hu))⟩)
    · obtain rfl : k = i := by
        rcases b2 k hk with h3 | h3
        · exact h3
        · exact absurd h3 e
      rw [hSi]
      unfold wpOp
      simp only [ho2, Region.wanted, hg2, if_true]
      refine .inl (Oper.wp_mono (fun a' w' hb => ?_) h2)
      refine (show Boxed w _ a' w' from ⟨hb.1, fun u hu => wpC.base (below_then hb.1 hu) _ _ _ _ ?_⟩)
      have h5 := wpC.planG hns hQ hend (.s j :: ps) _ a' u (hcl.set hri) hl0 hn0 hS b6 (hb.2 u hu)
      rw [show lenP (.s j :: ps) + n = lenP ps + (n + 1) by rw [lenP]; omega] at h5
      exact h5

def endP (ops : Array Oper) (is cs : List Nat) (listed : Array Bool) : Bool := firstB ops is listed && seqI ops cs (setsL is listed)
def endPA (ops : Array Oper) (i : Nat) (is cs : List Nat) (listed : Array Bool) : Bool := firstB ops is listed && decide (Region.ready .any ops (setsL is listed) = [i]) && seqI ops cs ((setsL is listed).setIfInBounds i true)
def planTP (ops : Array Oper) (i : Nat) (ps : List Stp) (is cs : List Nat) : Bool :=
  Region.noSelect ops && (ps.all fun p => p.is.all fun i => decide (i < ops.size)) && (cs.all fun i => decide (i < ops.size)) && (is.all fun i => decide (i < ops.size)) && decide (lenP ps + (is.length + cs.length + 1) = ops.size) &&
    (ps.all fun p => p.is.all fun i => !(is ++ cs).contains i) && (ps.all fun p => p.is.all fun i => (is ++ cs).all fun j => waitsT ops i ops.size j) && !(is ++ cs).contains i && planBAG ops (endP ops is cs) (endPA ops i is cs) i ps (Array.replicate ops.size false)
theorem wp_region_planP {id : Nat} {a : Act} {w : World} {l : List Oper} (i : Nat) (ps : List Stp) (is cs : List Nat) (hm : P.follows .mixedOrders = true) (hB : planTP l.toArray i ps is cs = true) (hQ : ∀ c a d v w, Q (.panic c) (Act.put a d v) w → Q (.panic c) a w)
    (h : ∀ u, Below w.heap.size w u → wpPlanAG P l.toArray Q (fun a w => wpPure P (fun a' => wpList P l.toArray Q (pick l.toArray cs) a' w) (pick l.toArray is) a)
      (fun a w => wpPure P (fun a' => ∃ o, l.toArray[i]? = some o ∧ o.guard = none ∧ o.wp P a' w (Boxed w (wpList P l.toArray Q (pick l.toArray cs))) Q) (pick l.toArray is) a) i ps a u) : (Code.region id l.toArray true).wp P Q a w := by
  simp only [planTP, Bool.and_eq_true, decide_eq_true_eq] at hB
  obtain ⟨⟨⟨⟨⟨⟨⟨⟨hns, h1⟩, h3⟩, h31⟩, h4⟩, h5⟩, h7⟩, h6⟩, h8⟩ := hB
  have hc : cs.all (fun i => (is ++ cs).contains i) = true := by simp; exact fun x hx => .inr hx
  have hc2 : is.all (fun i => (is ++ cs).contains i) = true := by simp; exact fun x hx => .inl hx
  have hSi : (is ++ cs).contains i = false := by simpa using h6
  have H := wpC.planAG (P := P) (S := fun i => (is ++ cs).contains i) (i := i) (n := is.length + cs.length) hns hQ hSi
    (fun listed a' w' hs hE => by
      simp only [endP, Bool.and_eq_true] at hs
      exact wpC.pures hns hQ w' is listed a' h31 hc2 hs.1 (fun a2 hE2 => wpC.close cs _ a2 w' h3 hc hs.2 hE2) hE)
    (fun listed a' w' hs hE => by
      simp only [endPA, Bool.and_eq_true, decide_eq_true_eq] at hs
      rw [Nat.add_assoc]
      refine wpC.pures hns hQ w' is listed a' h31 hc2 hs.1.1 (fun a2 hE2 => ?_) hE
      obtain ⟨o, ho, hg, hx⟩ := hE2
      refine ⟨fun h1 => (by rw [hs.1.2] at h1; cases h1), fun j hj => ?_⟩
      rw [hs.1.2] at hj
      obtain rfl : j = i := by simpa using hj
      show wpOp P _ Q j (BoxS ((is ++ cs).contains j) w' _) a2 w'
      rw [hSi]
      unfold wpOp
      simp only [ho, Region.wanted, hg, if_true]
      refine .inl (Oper.wp_mono (fun a3 w3 hb => ?_) hx)
      exact (show Boxed w' _ a3 w3 from ⟨hb.1, fun u hu => wpC.close cs _ a3 u h3 hc hs.2 (hb.2 u hu)⟩))
    ps _ a w.drew (closedL_none _) h1 h5
    (fun p hp i hi j _ hSj => List.all_eq_true.1 (List.all_eq_true.1 (List.all_eq_true.1 h7 p hp) i hi) j (by simpa using hSj)) h8 (h _ ((Below.refl _ _).drew))
  refine wp_region_any hm ?_
  rw [h4] at H
  exact wpC.any _ _ _ _ H
end
end Go.Proofs.Ytaaeipjnhjgjdaa
/- A region that draws its order: a plan, then a few operations that may come in any order among themselves. No program is named here. -/
namespace Go.Proofs.Ytaaeipjnhjgjdaa
open Go Go.RowKit

section
variable {P : Program} {ops : Array Oper} {w0 : World} {Q : Exit → Act → World → Prop} {S : Nat → Bool}

/-- The operations of R are those that are ready, and stay so until each is done; then the closing ones. -/
def setB (ops : Array Oper) (cs : List Nat) : Nat → List Nat → Array Bool → Bool
  | 0, _, listed => seqI ops cs listed
  | f + 1, R, listed => !(Region.ready .any ops listed).isEmpty && (Region.ready .any ops listed).all (fun k => R.contains k) && (Region.ready .any ops listed).all (fun k => setB ops cs f (R.erase k) (listed.setIfInBounds k true))
/-- What is to be shown: each of R may come first. -/
def wpSet (P : Program) (ops : Array Oper) (Q : Exit → Act → World → Prop) (E : Act → World → Prop) : Nat → List Nat → Act → World → Prop
  | 0, _, a, w => E a w
  | f + 1, R, a, w => ∀ k ∈ R, ∃ o, ops[k]? = some o ∧ o.guard = none ∧ o.wp P a w (Boxed w (wpSet P ops Q E f (R.erase k))) Q
theorem wpC.set {cs : List Nat} {E : Act → World → Prop} (hend : ∀ listed a w, seqI ops cs listed = true → E a w → ∀ w1, wpC P ops w1 S Q cs.length listed a w) :
    ∀ (f : Nat) (R : List Nat) (listed : Array Bool) (a : Act) (w : World), (∀ k ∈ R, S k = false) → setB ops cs f R listed = true → wpSet P ops Q E f R a w → wpC P ops w S Q (f + cs.length) listed a w
  | 0, R, listed, a, w, _, hB, h => by rw [Nat.zero_add]; exact hend listed a w hB h w
  | f + 1, R, listed, a, w, hS, hB, h => by
    simp only [setB, Bool.and_eq_true, Bool.not_eq_true', List.all_eq_true] at hB
    obtain ⟨⟨b1, b2⟩, b3⟩ := hB
    rw [Nat.add_right_comm]
    refine ⟨fun h1 => (by rw [h1] at b1; cases b1), fun k hk => ?_⟩
    have hkR : k ∈ R := by simpa using b2 k hk
    obtain ⟨o, ho, hg, h⟩ := h k hkR
    rw [hS k hkR]
    unfold wpOp
    simp only [ho, Region.wanted, hg, if_true]
    refine .inl (Oper.wp_mono (fun a' w' hb => ?_) h)
    exact (show Boxed w _ a' w' from ⟨hb.1, fun u hu => wpC.base (below_then hb.1 hu) _ _ _ _ (wpC.set hend f _ _ a' u (fun j hj => hS j (List.mem_of_mem_erase hj)) (b3 k hk) (hb.2 u hu))⟩)
def planTS (ops : Array Oper) (ps : List Stp) (R cs : List Nat) : Bool :=
  Region.noSelect ops && (ps.all fun p => p.is.all fun i => decide (i < ops.size)) && (cs.all fun i => decide (i < ops.size)) && decide (lenP ps + (R.length + cs.length) = ops.size) &&
    (ps.all fun p => p.is.all fun i => !cs.contains i) && (ps.all fun p => p.is.all fun i => cs.all fun j => waitsT ops i ops.size j) && (R.all fun i => !cs.contains i) && planBG ops (setB ops cs R.length R) ps (Array.replicate ops.size false)
theorem wp_region_planS {id : Nat} {a : Act} {w : World} {l : List Oper} (ps : List Stp) (R cs : List Nat) (hm : P.follows .mixedOrders = true) (hB : planTS l.toArray ps R cs = true) (hQ : ∀ c a d v w, Q (.panic c) (Act.put a d v) w → Q (.panic c) a w)
    (h : ∀ u, Below w.heap.size w u → wpPlan P l.toArray Q (wpSet P l.toArray Q (wpList P l.toArray Q (pick l.toArray cs)) R.length R) ps a u) : (Code.region id l.toArray true).wp P Q a w := by
  simp only [planTS, Bool.and_eq_true, decide_eq_true_eq] at hB
  obtain ⟨⟨⟨⟨⟨⟨⟨hns, h1⟩, h3⟩, h4⟩, h5⟩, h7⟩, h6⟩, h8⟩ := hB
  have hc : cs.all (fun i => cs.contains i) = true := by simp
  have H := wpC.planG (P := P) (S := fun i => cs.contains i) (n := R.length + cs.length) hns hQ
    (fun listed a' w' hs hE => wpC.set (fun l2 a2 w2 hs2 hE2 w1 => wpC.close cs l2 a2 w2 h3 hc hs2 hE2) R.length R listed a' w' (fun k hk => by simpa using List.all_eq_true.1 h6 k hk) hs hE)
    ps _ a w.drew (closedL_none _) h1 h5
    (fun p hp i hi j _ hSj => List.all_eq_true.1 (List.all_eq_true.1 (List.all_eq_true.1 h7 p hp) i hi) j (by simpa using hSj)) h8 (h _ ((Below.refl _ _).drew))
  refine wp_region_any hm ?_
  rw [h4] at H
  exact wpC.any _ _ _ _ H
end
end Go.Proofs.Ytaaeipjnhjgjdaa
/- A region that draws its order: reads that may come at any time, also after the stores into boxes that the region itself makes; a few operations in any order; closing stores. No program is named here. -/
namespace Go.Proofs.Ytaaeipjnhjgjdaa
open Go Go.RowKit

section
variable {P : Program} {ops : Array Oper} {w0 : World} {Q : Exit → Act → World → Prop} {S : Nat → Bool}

/-- Operation o leaves v, in every world that has grown out of w0, and does nothing else. -/
def YV (P : Program) (ops : Array Oper) (w0 : World) (o : Oper) (v : Value) (a : Act) : Prop := Region.wanted o (yielded ops a.tmps) = true ∧ ∀ u, Below w0.heap.size w0 u → (execOp a.eval o).run P u = .ok (.value v) u
theorem YV.same {o : Oper} {v : Value} {a a' : Act} (h : YV P ops w0 o v a) (he : execOp a'.eval o = execOp a.eval o) (hw : Region.wanted o (yielded ops a'.tmps) = Region.wanted o (yielded ops a.tmps)) : YV P ops w0 o v a' := by
  unfold YV at *
  rw [he, hw]
  exact h
theorem YV.op {i : Nat} {o : Oper} {v : Value} {a : Act} (hi : ops[i]? = some o) (h : YV P ops w0 o v a) {K : Act → World → Prop} {u : World} (hu : Below w0.heap.size w0 u) (hK : K (a.put o.dst v) u) : wpOp P ops Q i K a u := by
  obtain ⟨hw, hr⟩ := h
  unfold wpOp
  simp only [hi, hw, if_true]
  refine .inl ?_
  unfold Oper.wp
  rw [hr u hu]
  exact hK
/-- Another operation, apart from o: it makes no difference whether o's value is there already. -/
theorem val_put {j : Nat} {oi oj : Oper} {v : Value} (hj : ops[j]? = some oj) (hap : oi.apart ops oj = true) (hsi : ∀ cs b, oi.op ≠ .select cs b) (hsj : ∀ cs b, oj.op ≠ .select cs b)
    (hQ : ∀ c a w, Q (.panic c) (a.put oi.dst v) w → Q (.panic c) a w) {K : Act → World → Prop} {a : Act} {w : World} (hy : YV P ops w0 oi v a) (h : wpOp P ops Q j K (a.put oi.dst v) w) :
    wpOp P ops Q j (fun a' w' => YV P ops w0 oi v a' ∧ K (a'.put oi.dst v) w') a w := by
  obtain ⟨h1, h2, h3⟩ := Oper.apart_spec hap
  have keep : ∀ u, YV P ops w0 oi v (a.put oj.dst u) := fun u => hy.same (execOp_put oi hsi a oj.dst u h3) (wanted_put oi a oj.dst u h3)
  have back : ∀ u, (a.put oi.dst v).put oj.dst u = (a.put oj.dst u).put oi.dst v := fun u => Act.put_comm a v u h2
  unfold wpOp at *
  simp only [hj] at *
  rw [wanted_put oj a oi.dst v h1] at h
  cases hw : Region.wanted oj (yielded ops a.tmps) with
  | false =>
    simp only [hw, Bool.false_eq_true, if_false] at h ⊢
    exact ⟨keep _, by rw [← back]; exact h⟩
  | true =>
    simp only [hw, if_true] at h ⊢
    rcases h with h | ⟨ha, hl⟩
    · refine .inl ?_
      unfold Oper.wp at *
      rw [execOp_put oj hsj a oi.dst v h1] at h
      generalize (execOp a.eval oj).run P w = r at *
      match r, h with
      | .ok (.value u) w', h => exact ⟨keep u, by rw [← back]; exact h⟩
      | .ok .skip w', h => exact ⟨keep _, by rw [← back]; exact h⟩
      | .ok (.defer d) w', h =>
        refine ⟨YV.same (a := a) (hy) ?_ ?_, ?_⟩
        · exact execOp_put oi hsi { a with defers := d :: a.defers } oj.dst undef h3
        · exact wanted_put oi { a with defers := d :: a.defers } oj.dst undef h3
        · have e := Act.put_comm { a with defers := d :: a.defers } v undef h2
          rw [← e, ← Act.put_defers]
          exact h
      | .ok (.enter f args) w', h =>
        refine Calls.mono h fun e w'' he => ?_
        match e, he with
        | .returned u, he => exact ⟨keep u, by rw [← back]; exact he⟩
        | .panicked c, he => exact hQ _ _ _ he
        | .outgrown, he => exact he
      | .ok (.row row args) w', h => exact Rows.mono h fun u w'' he => ⟨keep u, by rw [← back]; exact he⟩
      | .halt (.panic u) w', h => exact hQ _ _ _ h
    · refine .inr ⟨?_, hl⟩
      unfold Oper.asks at *
      rw [execOp_put oj hsj a oi.dst v h1] at ha
      exact ha



/-- Exact where s is true, else in every world that has grown; in both, out of w0. -/
def BoxT (s : Bool) (w0 : World) (K : Act → World → Prop) (a : Act) (w : World) : Prop := Below w0.heap.size w0 w ∧ if s then K a w else ∀ u, Below w.heap.size w u → K a u
theorem BoxT.now {s : Bool} {K : Act → World → Prop} {a : Act} {w : World} (h : BoxT s w0 K a w) : K a w := by
  obtain ⟨_, h⟩ := h
  cases s
  · exact h w (Below.refl _ _)
  · exact h
def wpD (P : Program) (ops : Array Oper) (w0 : World) (S : Nat → Bool) (Q : Exit → Act → World → Prop) : Nat → Array Bool → Act → World → Prop
  | 0, listed, a, w => Region.ready .any ops listed = [] ∧ Q .normal a w
  | f + 1, listed, a, w => (Region.ready .any ops listed = [] → Q .normal a w) ∧ ∀ i ∈ Region.ready .any ops listed, wpOp P ops Q i (BoxT (S i) w0 (wpD P ops w0 S Q f (listed.setIfInBounds i true))) a w
theorem wpD.any : ∀ (f : Nat) (listed : Array Bool) (a : Act) (w : World), wpD P ops w0 S Q f listed a w → wpAny P .any ops Q f listed a w
  | 0, _, _, _, h => h
  | f + 1, _, _, _, h => ⟨h.1, fun i hi => wpOp_mono (fun a' w' hb => wpD.any f _ a' w' hb.now) (h.2 i hi)⟩
theorem wpD.free {i : Nat} {o : Oper} {v : Value} (hi : ops[i]? = some o) (hns : Region.noSelect ops = true) (hQ : ∀ c a d v w, Q (.panic c) (Act.put a d v) w → Q (.panic c) a w) (hSi : S i = true) (f : Nat) :
    ∀ (listed : Array Bool) (a : Act) (w : World), Below w0.heap.size w0 w →
      (∀ j oj, ops[j]? = some oj → j ≠ i → listed.getD j true = false → (∀ e ∈ oj.after, Region.binds .any e = true → e.on ≠ i) → o.apart ops oj = true) →
      i ∈ Region.ready .any ops listed → YV P ops w0 o v a → wpD P ops w0 S Q f (listed.setIfInBounds i true) (a.put o.dst v) w → wpD P ops w0 S Q (f + 1) listed a w := by
  have hsel := Region.noSelect_spec hns
  induction f with
  | zero =>
    intro listed a w hw _ hr hy H
    refine ⟨fun h => (by rw [h] at hr; cases hr), fun j hj => ?_⟩
    by_cases e : j = i
    · subst e
      rw [hSi]
      exact hy.op hi hw ⟨hw, H⟩
    · have h1 := ready_mono hj e
      rw [H.1] at h1
      cases h1
  | succ f ih =>
    intro listed a w hw hfree hr hy H
    refine ⟨fun h => (by rw [h] at hr; cases hr), fun j hj => ?_⟩
    by_cases e : j = i
    · subst e
      rw [hSi]
      exact hy.op hi hw ⟨hw, H⟩
    · obtain ⟨hun, _⟩ := mem_ready.1 hr
      obtain ⟨huj, oj, hoj, hdone⟩ := mem_ready.1 hj
      have hfar : ∀ x ∈ oj.after, Region.binds .any x = true → x.on ≠ i := by
        intro x hx hb hxi
        have := hdone x hx hb
        rw [hxi] at this
        rcases Nat.lt_or_ge i listed.size with hl | hl
        · simp [hl] at hun this; rw [hun] at this; cases this
        · simp [Array.getElem?_eq_none hl] at hun
      have h2 := val_put hoj (hfree j oj hoj e huj hfar) (fun cs b => hsel i o cs b hi) (fun cs b => hsel j oj cs b hoj) (fun c a' w' => hQ c a' _ _ w') hy (H.2 j (ready_mono hj e))
      have step : ∀ a' w', Below w0.heap.size w0 w' → YV P ops w0 o v a' → wpD P ops w0 S Q f ((listed.setIfInBounds i true).setIfInBounds j true) (a'.put o.dst v) w' → wpD P ops w0 S Q (f + 1) (listed.setIfInBounds j true) a' w' := fun a' w' hw' hy' hall => by
        refine ih (listed.setIfInBounds j true) a' w' hw' (fun m om hm hmi hum hnm => ?_) (ready_mono hr (Ne.symm e)) hy' ?_
        · have hum' : listed.getD m true = false := by
            by_cases e2 : j = m
            · subst e2; exact huj
            · rw [getD_set_ne true e2] at hum; exact hum
          exact hfree m om hm hmi hum' hnm
        · rw [Array.setIfInBounds_comm _ _ e]; exact hall
      refine wpOp_mono (fun a' w' hb => ?_) h2
      obtain ⟨hy', hb0, hb⟩ := hb
      cases hs : S j with
      | true => rw [hs] at hb; exact ⟨hb0, step a' w' hb0 hy' hb⟩
      | false => rw [hs] at hb; exact ⟨hb0, fun u hu => step a' u (below_then hb0 hu) hy' (hb u hu)⟩
def wpFree (P : Program) (w0 : World) (D : Act → Prop) : List Oper → Act → Prop
  | [], a => D a
  | o :: rest, a => o.guard = none ∧ ∃ v, (∀ u, Below w0.heap.size w0 u → (execOp a.eval o).run P u = .ok (.value v) u) ∧ wpFree P w0 D rest (a.put o.dst v)
theorem wpD.frees (hns : Region.noSelect ops = true) (hQ : ∀ c a d v w, Q (.panic c) (Act.put a d v) w → Q (.panic c) a w) {D : Act → Prop} {g : Nat} (w : World) (hw : Below w0.heap.size w0 w) :
    ∀ (is : List Nat) (listed : Array Bool) (a : Act), is.all (fun i => decide (i < ops.size)) = true → is.all S = true → firstB ops is listed = true →
      (∀ a', D a' → wpD P ops w0 S Q g (setsL is listed) a' w) → wpFree P w0 D (pick ops is) a → wpD P ops w0 S Q (is.length + g) listed a w
  | [], listed, a, _, _, _, hend, h => by rw [List.length_nil, Nat.zero_add]; exact hend a h
  | i :: is, listed, a, hl, hs, hB, hend, h => by
    simp only [List.all_cons, Bool.and_eq_true, decide_eq_true_eq] at hl hs
    obtain ⟨o, ho⟩ : ∃ o, ops[i]? = some o := ⟨_, Array.getElem?_eq_getElem hl.1⟩
    rw [pick_cons ho] at h
    simp only [firstB, Bool.and_eq_true] at hB
    have hri : i ∈ Region.ready .any ops listed := by simpa using hB.1.1
    obtain ⟨hg, v, hy, hD⟩ := h
    rw [List.length_cons, Nat.add_right_comm]
    exact wpD.free ho hns hQ hs.1 (is.length + g) listed a w hw (Region.free_spec ho hB.1.2) hri ⟨by simp [Region.wanted, hg], hy⟩
      (wpD.frees hns hQ w hw is _ _ hl.2 hs.2 hB.2 hend hD)
/-- The closing ones, in their order; each leaves a world that has grown out of w0. -/
def wpEnds (P : Program) (w0 : World) (Q : Exit → Act → World → Prop) : List Oper → Act → World → Prop
  | [], a, w => Q .normal a w
  | o :: rest, a, w => o.guard = none ∧ o.wp P a w (fun a' w' => Below w0.heap.size w0 w' ∧ wpEnds P w0 Q rest a' w') Q
theorem wpD.close : ∀ (cs : List Nat) (listed : Array Bool) (a : Act) (w : World), cs.all (fun i => decide (i < ops.size)) = true → cs.all S = true → seqI ops cs listed = true → wpEnds P w0 Q (pick ops cs) a w → wpD P ops w0 S Q cs.length listed a w
  | [], listed, a, w, _, _, hB, h => ⟨by simpa [seqI] using hB, h⟩
  | i :: cs, listed, a, w, hl, hs, hB, h => by
    simp only [List.all_cons, Bool.and_eq_true, decide_eq_true_eq] at hl hs
    obtain ⟨o, ho⟩ : ∃ o, ops[i]? = some o := ⟨_, Array.getElem?_eq_getElem hl.1⟩
    rw [pick_cons ho] at h
    simp only [seqI, Bool.and_eq_true, decide_eq_true_eq] at hB
    obtain ⟨hg, h⟩ := h
    refine ⟨fun h1 => (by rw [hB.1] at h1; cases h1), fun j hj => ?_⟩
    rw [hB.1] at hj
    obtain rfl : j = i := by simpa using hj
    rw [hs.1]
    unfold wpOp
    simp only [ho, Region.wanted, hg, if_true]
    exact .inl (Oper.wp_mono (fun a' w' hb => ⟨hb.1, wpD.close cs _ a' w' hl.2 hs.2 hB.2 hb.2⟩) h)
theorem wpD.set {cs : List Nat} {E : Act → World → Prop} (hend : ∀ listed a w, seqI ops cs listed = true → E a w → wpD P ops w0 S Q cs.length listed a w) :
    ∀ (f : Nat) (R : List Nat) (listed : Array Bool) (a : Act) (w : World), Below w0.heap.size w0 w → (∀ k ∈ R, S k = false) → setB ops cs f R listed = true → wpSet P ops Q E f R a w → wpD P ops w0 S Q (f + cs.length) listed a w
  | 0, R, listed, a, w, _, _, hB, h => by rw [Nat.zero_add]; exact hend listed a w hB h
  | f + 1, R, listed, a, w, hw, hS, hB, h => by
    simp only [setB, Bool.and_eq_true, Bool.not_eq_true', List.all_eq_true] at hB
    obtain ⟨⟨b1, b2⟩, b3⟩ := hB
    rw [Nat.add_right_comm]
    refine ⟨fun h1 => (by rw [h1] at b1; cases b1), fun k hk => ?_⟩
    have hkR : k ∈ R := by simpa using b2 k hk
    obtain ⟨o, ho, hg, h⟩ := h k hkR
    rw [hS k hkR]
    unfold wpOp
    simp only [ho, Region.wanted, hg, if_true]
    refine .inl (Oper.wp_mono (fun a' w' hb => ?_) h)
    exact ⟨below_then hw hb.1, fun u hu => wpD.set hend f _ _ a' u (below_then hw (below_then hb.1 hu)) (fun j hj => hS j (List.mem_of_mem_erase hj)) (b3 k hk) (hb.2 u hu)⟩
def planTD (ops : Array Oper) (is R cs : List Nat) : Bool :=
  Region.noSelect ops && (is.all fun i => decide (i < ops.size)) && (cs.all fun i => decide (i < ops.size)) && decide (is.length + (R.length + cs.length) = ops.size) &&
    (R.all fun i => !(is ++ cs).contains i) && firstB ops is (Array.replicate ops.size false) && setB ops cs R.length R (setsL is (Array.replicate ops.size false))
theorem wp_region_planD {id : Nat} {a : Act} {w : World} {l : List Oper} (is R cs : List Nat) (hm : P.follows .mixedOrders = true) (hB : planTD l.toArray is R cs = true) (hQ : ∀ c a d v w, Q (.panic c) (Act.put a d v) w → Q (.panic c) a w)
    (h : ∀ u, Below w.heap.size w u → wpFree P u (fun a' => wpSet P l.toArray Q (wpEnds P u Q (pick l.toArray cs)) R.length R a' u) (pick l.toArray is) a) : (Code.region id l.toArray true).wp P Q a w := by
  simp only [planTD, Bool.and_eq_true, decide_eq_true_eq] at hB
  obtain ⟨⟨⟨⟨⟨⟨hns, h1⟩, h3⟩, h4⟩, h5⟩, h6⟩, h7⟩ := hB
  have hc : cs.all (fun i => (is ++ cs).contains i) = true := by simp; exact fun x hx => .inr hx
  have hc2 : is.all (fun i => (is ++ cs).contains i) = true := by simp; exact fun x hx => .inl hx
  have H := wpD.frees (P := P) (S := fun i => (is ++ cs).contains i) (g := R.length + cs.length) hns hQ w.drew (Below.refl _ _) is _ a h1 hc2 h6
    (fun a' hE => wpD.set (fun l2 a2 w2 hs2 hE2 => wpD.close cs l2 a2 w2 h3 hc hs2 hE2) R.length R _ a' w.drew (Below.refl _ _) (fun k hk => by simpa using List.all_eq_true.1 h5 k hk) h7 hE) (h _ ((Below.refl _ _).drew))
  refine wp_region_any hm ?_
  rw [h4] at H
  exact wpD.any _ _ _ _ H
end
end Go.Proofs.Ytaaeipjnhjgjdaa
