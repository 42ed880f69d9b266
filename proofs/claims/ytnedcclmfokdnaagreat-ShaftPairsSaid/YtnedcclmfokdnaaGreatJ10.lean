/- Texts joined: Draw DrawB PickIn Plan PlanA PlanP PlanL PlanN PlanT PlanM PlanU. -/
import Derived.Test.YtnedcclmfokdnaaGreatJ9
import Derived.Test.YtnedcclmfokdnaaGreatJ4
import Derived.OrdersIn
namespace Go.Proofs.YtnedcclmfokdnaaGreat
open Go Go.RowKit
abbrev Fr (r : Option Nat) : Fence := { Fence.wide with round := r }
def noDefer (ops : Array Oper) : Bool := ops.all fun o => match o.op with | .defer _ => false | _ => true
theorem noDefer_spec {ops : Array Oper} (h : noDefer ops = true) {i : Nat} {o : Oper} (hi : ops[i]? = some o) : ∀ c, o.op ≠ .defer c := by
  intro c hc
  have h1 : o ∈ ops := Array.mem_of_getElem? hi
  have h2 := Array.all_eq_true'.1 h o h1
  rw [hc] at h2
  cases h2
section
variable {P : Program} {ops : Array Oper} {C : World → Prop} {Q : Exit → Act → World → Prop} {r : Option Nat} {n : Nat}
theorem quiet_in {o : Oper} {a : Act} {K : Act → Prop} {K' : Act → World → Prop} {w : World} (hd : ∀ c, o.op ≠ .defer c) (hw : C w) (h : ∀ a w', C w' → K a → K' a w') (hh : o.quiet P a C K) : o.wpIn (Fr r) n P a w K' Q := by
  obtain ⟨v, h1, h2⟩ := hh
  have h3 := h1 w hw
  unfold Oper.quietAt at h3
  refine ⟨fun _ _ => trivial, ?_⟩
  rw [Oper.semAt_eq _ _ _ hd]
  generalize (execOp a.eval o).run P w = x at *
  cases x with
  | ok m w' =>
    cases m <;> simp only [Oper.quietUpon] at h3 <;> simp only [Oper.uponIn]
    case value u => obtain ⟨rfl, rfl⟩ := h3; exact h _ _ hw h2
    case skip => obtain ⟨rfl, rfl⟩ := h3; exact h _ _ hw h2
    case enter f args =>
      obtain ⟨rfl, hc⟩ := h3
      exact ⟨fun h => by simp [Fence.wide] at h, calls_any (hc.mono fun e w'' ⟨he, hw''⟩ => by subst he; exact h _ _ hw'' h2)⟩
  | halt x w' => simp only [Oper.quietUpon] at h3
theorem wpOpIn_of_quiet {i : Nat} {a : Act} {K : Act → Prop} {K' : Act → World → Prop} {w : World} (hd : noDefer ops = true) (hC : C w) (h : ∀ a w', C w' → K a → K' a w') (hh : qOp P ops C i K a) : wpOpIn (Fr r) n P ops Q i K' a w := by
  unfold qOp at hh
  unfold wpOpIn
  split
  · rename_i ho; simp only [ho] at hh; exact h _ _ hC hh
  · rename_i o ho
    simp only [ho] at hh
    split
    · rename_i hw; simp only [hw, if_true] at hh; exact quiet_in (noDefer_spec hd ho) hC h hh
    · rename_i hw; simp only [hw] at hh; exact ⟨fun _ _ => trivial, h _ _ hC hh⟩
theorem Heads.anyIn {m g : Nat} {L : Array Bool → Act → Prop} (hd : noDefer ops = true) (hL : ∀ listed a w, C w → L listed a → wpAnyIn (Fr r) n P .any ops Q g listed a w) :
    ∀ (f : Nat) (listed : Array Bool) (a : Act) (w : World), C w → Heads P ops C m L f listed a → wpAnyIn (Fr r) n P .any ops Q (f + g) listed a w := by
  intro f
  induction f with
  | zero => intro listed a w hw h; rw [Nat.zero_add]; exact hL _ _ _ hw h
  | succ f ih =>
    intro listed a w hw ⟨⟨i0, h0⟩, h⟩
    rw [Nat.add_right_comm]
    refine ⟨fun he => ?_, fun i hi => wpOpIn_of_quiet hd hw (fun a' w' hw' h' => ih _ a' w' hw' h') (h i hi).2⟩
    rw [he] at h0
    cases h0
theorem wpAnyIn_of_seq : ∀ (l : List Oper) (k : Nat) (listed : Array Bool) (a : Act) (w : World), (∀ j, l[j]? = ops[k + j]?) →
    Region.seqB .any ops l.length k listed = true → wpListIn (Fr r) n P ops Q l a w → wpAnyIn (Fr r) n P .any ops Q l.length listed a w := by
  intro l
  induction l with
  | nil => intro k listed a w _ hB h; exact ⟨by simpa [Region.seqB] using hB, h⟩
  | cons o l ih =>
    intro k listed a w hl hB h
    have h0 : ops[k]? = some o := by simpa using (hl 0).symm
    simp only [List.length_cons, Region.seqB, Bool.and_eq_true, decide_eq_true_eq] at hB
    refine ⟨fun h1 => (by rw [hB.1] at h1; cases h1), fun i hi => ?_⟩
    rw [hB.1] at hi
    obtain rfl : i = k := by simpa using hi
    have hw : wpOpIn (Fr r) n P ops Q i (wpListIn (Fr r) n P ops Q l) a w := by unfold wpOpIn; simp only [h0]; exact h
    exact wpOpIn_mono (fun a' w' h' => ih (i + 1) _ a' w' (fun j => by have := hl (j + 1); simpa [Nat.add_assoc, Nat.add_comm 1 j] using this) hB.2 h') hw
theorem wpIn_region_grown_tail {id : Nat} {a : Act} {w : World} {l : List Oper} (m : Nat) (hm : P.follows .mixedOrders = true) (hB : (noDefer l.toArray && Region.lexTailB .any l.toArray m) = true)
    (h : (∀ (g : Gr w) b o, b < w.heap.size → g.val.cell? ⟨b, o, none⟩ = w.cell? ⟨b, o, none⟩) →
      wpQuiet P l.toArray (fun w' => ∃ g : Gr w, w' = g.val) (fun a' => ∀ w', (∃ g : Gr w, w' = g.val) → wpListIn (Fr r) n P l.toArray Q (l.drop m) a' w') (l.take m) a) : (Code.region id l.toArray true).wpIn (Fr r) n P Q a w := by
  simp only [Region.lexTailB, Bool.and_eq_true, decide_eq_true_eq] at hB
  obtain ⟨hd, ⟨⟨⟨hns, hn⟩, hs⟩, hc⟩, hlex⟩ := hB
  have hnl : m < l.length := by simpa using hn
  have htk : (l.take m).length = m := by simp; omega
  have inv : HeadInv .any l.toArray m (Array.replicate l.toArray.size false) :=
    ⟨by simp, fun j oj _ hl => (by rw [getD_replicate_false] at hl; cases hl), fun t _ ht => getD_in (by simpa using ht) (getD_replicate_false _ _)⟩
  have hH := Heads.lex (g := l.toArray.size - m) hns (waits_all hs hc hn) (l.take m) 0 _ a (Nat.le_refl _) (fun j hj => by
    have hj' : j < m := by rw [htk] at hj; exact hj
    simp [hj']) (by simpa using htk) inv (by rw [htk]; exact hlex) (h fun g b o h => g.b.cell (p := ⟨b, o, none⟩) h)
  have hA := Heads.anyIn (r := r) (n := n) (Q := Q) (g := l.toArray.size - m) hd (fun li a' w' hw' hL => by
    have := wpAnyIn_of_seq (r := r) (n := n) (Q := Q) (l.drop m) m li a' w' (fun j => by simp [List.getElem?_drop]) (by simpa using hL.1) (hL.2 w' hw')
    simpa using this) _ _ _ w.drew ⟨⟨w.drew, (Below.refl _ _).drew⟩, rfl⟩ hH
  refine wpIn_region_any hm ?_
  rw [htk, show m + (l.toArray.size - m) = l.toArray.size by omega] at hA
  exact hA
end
end Go.Proofs.YtnedcclmfokdnaaGreat
namespace Go.Proofs.YtnedcclmfokdnaaGreat
open Go Go.RowKit
section
variable {P : Program} {ops : Array Oper} {G : World → Prop} {Q : Exit → Act → World → Prop} {r : Option Nat} {n : Nat}
def RelG (P : Program) (G : World → Prop) (o : Oper) (a : Act) (v : Value) : Prop := ∀ u, G u → RelUpon P u v ((execOp a.eval o).run P u)
def RelS (P : Program) (G : World → Prop) (o : Oper) (a : Act) (next : Act → Prop) : Prop := ∃ v, RelG P G o a v ∧ next (a.put o.dst v)
def wpRelS (P : Program) (ops : Array Oper) (G : World → Prop) (D : Act → Prop) : List Oper → Act → Prop
  | [], a => D a
  | o :: rest, a => if Region.wanted o (yielded ops a.tmps) then RelS P G o a (wpRelS P ops G D rest) else wpRelS P ops G D rest (a.put o.dst undef)
def YRelG (P : Program) (ops : Array Oper) (G : World → Prop) (o : Oper) (v : Value) (a : Act) : Prop :=
  (Region.wanted o (yielded ops a.tmps) = true ∧ RelG P G o a v) ∨ (Region.wanted o (yielded ops a.tmps) = false ∧ v = undef)
theorem YRelG.same {o : Oper} {v : Value} {a a' : Act} (h : YRelG P ops G o v a) (he : execOp a'.eval o = execOp a.eval o) (hw : Region.wanted o (yielded ops a'.tmps) = Region.wanted o (yielded ops a.tmps)) : YRelG P ops G o v a' := by
  unfold YRelG RelG at *
  rw [he, hw]
  exact h
def BoxedG (G : World → Prop) (K : Act → World → Prop) (a : Act) (w : World) : Prop := G w ∧ ∀ u, Below w.heap.size w u → K a u
theorem YRelG.op (hG : ∀ u u', G u → Below u.heap.size u u' → G u') (hd : noDefer ops = true) {i : Nat} {o : Oper} {v : Value} {a : Act} (hi : ops[i]? = some o) (h : YRelG P ops G o v a) {K : Act → World → Prop} {u : World} (hu : G u)
    (hK : ∀ u', Below u.heap.size u u' → K (a.put o.dst v) u') : wpOpIn (Fr r) n P ops Q i (BoxedG G K) a u := by
  unfold wpOpIn
  simp only [hi]
  rcases h with ⟨hw, hr⟩ | ⟨hw, rfl⟩
  · simp only [hw, if_true]
    refine ⟨fun _ _ => trivial, ?_⟩
    rw [Oper.semAt_eq _ _ _ (noDefer_spec hd hi)]
    have := hr u hu
    generalize (execOp a.eval o).run P u = x at *
    cases x with
    | ok m w' =>
      cases m <;> simp only [RelUpon] at this <;> simp only [Oper.uponIn]
      case value x => obtain ⟨rfl, rfl⟩ := this; exact ⟨hu, hK⟩
      case skip => obtain ⟨rfl, rfl⟩ := this; exact ⟨hu, hK⟩
      case enter f args =>
        obtain ⟨rfl, hc⟩ := this
        refine ⟨fun h => by simp [Fence.wide] at h, calls_any (hc.mono fun e w'' ⟨he, hb⟩ => ?_)⟩
        subst he
        exact ⟨hG _ _ hu hb, fun u' hu' => hK u' (below_then hb hu')⟩
    | halt x w' => simp only [RelUpon] at this
  · simp only [hw, Bool.false_eq_true, if_false]
    exact ⟨fun _ _ => trivial, hu, hK⟩
theorem boxedG_put (hd : noDefer ops = true) {j : Nat} {oi oj : Oper} {v : Value} (hj : ops[j]? = some oj) (hap : oi.apart ops oj = true) (hsi : ∀ cs b, oi.op ≠ .select cs b) (hsj : ∀ cs b, oj.op ≠ .select cs b)
    (hQ : ∀ c a w, Q (.panic c) (a.put oi.dst v) w → Q (.panic c) a w) {K : Act → World → Prop} {a : Act} {w : World} (hy : YRelG P ops G oi v a) (h : wpOpIn (Fr r) n P ops Q j K (a.put oi.dst v) w) :
    wpOpIn (Fr r) n P ops Q j (fun a' w' => YRelG P ops G oi v a' ∧ K (a'.put oi.dst v) w') a w := by
  obtain ⟨h1, h2, h3⟩ := Oper.apart_spec hap
  have keep : ∀ u, YRelG P ops G oi v (a.put oj.dst u) := fun u => hy.same (execOp_put oi hsi a oj.dst u h3) (wanted_put oi a oj.dst u h3)
  have back : ∀ u, (a.put oi.dst v).put oj.dst u = (a.put oj.dst u).put oi.dst v := fun u => Act.put_comm a v u h2
  have hdj := noDefer_spec hd hj
  unfold wpOpIn at *
  simp only [hj] at *
  rw [wanted_put oj a oi.dst v h1] at h
  cases hw : Region.wanted oj (yielded ops a.tmps) with
  | false =>
    simp only [hw, Bool.false_eq_true, if_false] at h ⊢
    exact ⟨fun _ _ => trivial, keep _, by rw [← back]; exact h.2⟩
  | true =>
    simp only [hw, if_true] at h ⊢
    refine ⟨fun _ _ => trivial, ?_⟩
    replace h := h.2
    rw [Oper.semAt_eq _ _ _ hdj] at h ⊢
    rw [execOp_put oj hsj a oi.dst v h1] at h
    generalize (execOp a.eval oj).run P w = x at *
    match x, h with
    | .ok (.value u) w', h => exact ⟨keep u, by rw [← back]; exact h⟩
    | .ok .skip w', h => exact ⟨keep _, by rw [← back]; exact h⟩
    | .ok (.defer d) w', h =>
      refine ⟨YRelG.same (a := a) (hy) ?_ ?_, ?_⟩
      · exact execOp_put oi hsi { a with defers := d :: a.defers } oj.dst undef h3
      · exact wanted_put oi { a with defers := d :: a.defers } oj.dst undef h3
      · have e := Act.put_comm { a with defers := d :: a.defers } v undef h2
        rw [← e, ← Act.put_defers]
        exact h
    | .ok (.enter f args) w', h =>
      refine ⟨h.1, CallsIn.mono h.2 fun e w'' he => ?_⟩
      match e, he with
      | .returned u, he => exact ⟨keep u, by rw [← back]; exact he⟩
      | .panicked c, he => exact hQ _ _ _ he
      | .outgrown, he => exact he
    | .ok (.row row args) w', h => exact ⟨h.1, RowsIn.mono h.2 fun u w'' he => ⟨keep u, by rw [← back]; exact he⟩⟩
    | .ok (.round l f tmps assign body) w', h =>
      refine ⟨h.1, RoundIn.mono h.2 fun e w'' he => ?_⟩
      match e, he with
      | .returned u, he => exact ⟨keep u, by rw [← back]; exact he⟩
      | .panicked c, he => exact hQ _ _ _ he
      | .outgrown, he => exact he
    | .halt (.panic u) w', h => exact hQ _ _ _ h
def wpBG (r : Option Nat) (n : Nat) (P : Program) (ops : Array Oper) (G : World → Prop) (Q : Exit → Act → World → Prop) : Nat → Array Bool → Act → World → Prop
  | 0, listed, a, w => Region.ready .any ops listed = [] ∧ Q .normal a w
  | f + 1, listed, a, w => (Region.ready .any ops listed = [] → Q .normal a w) ∧ ∀ i ∈ Region.ready .any ops listed, wpOpIn (Fr r) n P ops Q i (BoxedG G (wpBG r n P ops G Q f (listed.setIfInBounds i true))) a w
theorem wpBG.any : ∀ (f : Nat) (listed : Array Bool) (a : Act) (w : World), wpBG r n P ops G Q f listed a w → wpAnyIn (Fr r) n P .any ops Q f listed a w
  | 0, _, _, _, h => h
  | f + 1, _, _, _, h => ⟨h.1, fun i hi => wpOpIn_mono (fun a' w' hb => wpBG.any f _ a' w' (hb.2 w' (Below.refl _ _))) (h.2 i hi)⟩
theorem wpBG.first (hG : ∀ u u', G u → Below u.heap.size u u' → G u') (hd : noDefer ops = true) {i : Nat} {o : Oper} {v : Value} (hi : ops[i]? = some o) (hns : Region.noSelect ops = true) (hQ : ∀ c a d v w, Q (.panic c) (Act.put a d v) w → Q (.panic c) a w) (f : Nat) :
    ∀ (listed : Array Bool) (a : Act) (w : World), G w →
      (∀ j oj, ops[j]? = some oj → j ≠ i → listed.getD j true = false → (∀ e ∈ oj.after, Region.binds .any e = true → e.on ≠ i) → o.apart ops oj = true) →
      i ∈ Region.ready .any ops listed → YRelG P ops G o v a → (∀ u, Below w.heap.size w u → wpBG r n P ops G Q f (listed.setIfInBounds i true) (a.put o.dst v) u) →
      ∀ u, Below w.heap.size w u → wpBG r n P ops G Q (f + 1) listed a u := by
  have hsel := Region.noSelect_spec hns
  induction f with
  | zero =>
    intro listed a w hw _ hr hy H u hu
    refine ⟨fun h => (by rw [h] at hr; cases hr), fun j hj => ?_⟩
    by_cases e : j = i
    · subst e
      exact hy.op hG hd hi (hG _ _ hw hu) fun u' hu' => H u' (below_then hu hu')
    · have h1 := ready_mono hj e
      rw [(H u hu).1] at h1
      cases h1
  | succ f ih =>
    intro listed a w hw hfree hr hy H u hu
    refine ⟨fun h => (by rw [h] at hr; cases hr), fun j hj => ?_⟩
    by_cases e : j = i
    · subst e
      exact hy.op hG hd hi (hG _ _ hw hu) fun u' hu' => H u' (below_then hu hu')
    · obtain ⟨hun, _⟩ := mem_ready.1 hr
      obtain ⟨huj, oj, hoj, hdone⟩ := mem_ready.1 hj
      have hfar : ∀ x ∈ oj.after, Region.binds .any x = true → x.on ≠ i := by
        intro x hx hb hxi
        have := hdone x hx hb
        rw [hxi] at this
        rcases Nat.lt_or_ge i listed.size with hl | hl
        · simp [hl] at hun this; rw [hun] at this; cases this
        · simp [Array.getElem?_eq_none hl] at hun
      have h2 := boxedG_put (r := r) (n := n) hd hoj (hfree j oj hoj e huj hfar) (fun cs b => hsel i o cs b hi) (fun cs b => hsel j oj cs b hoj) (fun c a' w' => hQ c a' _ _ w') hy ((H u hu).2 j (ready_mono hj e))
      refine wpOpIn_mono (fun a' w' hb => ?_) h2
      obtain ⟨hy', hb', hall⟩ := hb
      refine ⟨hb', fun u' hu' => ih (listed.setIfInBounds j true) a' w' hb' (fun m om hm hmi hum hnm => ?_) (ready_mono hr (Ne.symm e)) hy' (fun u'' hu'' => ?_) u' hu'⟩
      · have hum' : listed.getD m true = false := by
          by_cases e2 : j = m
          · subst e2; exact huj
          · rw [getD_set_ne true e2] at hum; exact hum
        exact hfree m om hm hmi hum' hnm
      · rw [Array.setIfInBounds_comm _ _ e]; exact hall u'' hu''
theorem yrelG_of_step {D : Act → Prop} {o : Oper} {rest : List Oper} {a : Act} (h : wpRelS P ops G D (o :: rest) a) : ∃ v, YRelG P ops G o v a ∧ wpRelS P ops G D rest (a.put o.dst v) := by
  unfold wpRelS at h
  cases hw : Region.wanted o (yielded ops a.tmps) with
  | true =>
    simp only [hw, if_true] at h
    obtain ⟨v, h1, h2⟩ := h
    exact ⟨v, .inl ⟨hw, h1⟩, h2⟩
  | false =>
    simp only [hw, Bool.false_eq_true, if_false] at h
    exact ⟨undef, .inr ⟨hw, rfl⟩, h⟩
theorem wpBG.lex (hG : ∀ u u', G u → Below u.heap.size u u' → G u') (hd : noDefer ops = true) {m g : Nat} {D : Act → Prop} (hns : Region.noSelect ops = true) (hQ : ∀ c a d v w, Q (.panic c) (Act.put a d v) w → Q (.panic c) a w) (w : World) (hw : G w)
    (hend : ∀ listed a, Region.seqB .any ops g m listed = true → D a → ∀ u, Below w.heap.size w u → wpBG r n P ops G Q g listed a u) (l : List Oper) :
    ∀ (k : Nat) (listed : Array Bool) (a : Act), (∀ j, j < l.length → l[j]? = ops[k + j]?) → k + l.length = m → Region.lexHead .any ops g l.length k listed = true → wpRelS P ops G D l a →
      ∀ u, Below w.heap.size w u → wpBG r n P ops G Q (l.length + g) listed a u := by
  induction l with
  | nil =>
    intro k listed a _ hk hB h u hu
    obtain rfl : k = m := by simpa using hk
    rw [List.length_nil, Nat.zero_add]
    exact hend listed a (by simpa [Region.lexHead] using hB) h u hu
  | cons o l ih =>
    intro k listed a hat hk hB h u hu
    have hok : ops[k]? = some o := by simpa using (hat 0 (by simp)).symm
    simp only [List.length_cons] at hk
    simp only [List.length_cons, Region.lexHead, Bool.and_eq_true] at hB
    obtain ⟨v, hy, hD⟩ := yrelG_of_step h
    rw [List.length_cons, Nat.add_right_comm]
    refine wpBG.first hG hd hok hns hQ (l.length + g) listed a w hw (Region.free_spec hok hB.1.2) (by simpa using hB.1.1) hy (fun u' hu' => ?_) u hu
    refine ih (k + 1) _ _ (fun j hj => ?_) (by omega) hB.2 hD u' hu'
    have := hat (j + 1) (by simp; omega)
    simpa [Nat.add_assoc, Nat.add_comm 1 j] using this
def wpBoxG (r : Option Nat) (n : Nat) (P : Program) (G : World → Prop) (Q : Exit → Act → World → Prop) : List Oper → Act → World → Prop
  | [], a, w => Q .normal a w
  | o :: rest, a, w => o.guard = none ∧ o.wpIn (Fr r) n P a w (BoxedG G (wpBoxG r n P G Q rest)) Q
theorem wpBG.seq (l : List Oper) : ∀ (k : Nat) (listed : Array Bool) (a : Act) (w : World), (∀ j, j < l.length → l[j]? = ops[k + j]?) → Region.seqB .any ops l.length k listed = true → wpBoxG r n P G Q l a w →
    wpBG r n P ops G Q l.length listed a w := by
  induction l with
  | nil => intro k listed a w _ hB h; exact ⟨by simpa [Region.seqB] using hB, h⟩
  | cons o l ih =>
    intro k listed a w hat hB ⟨hg, h⟩
    have hok : ops[k]? = some o := by simpa using (hat 0 (by simp)).symm
    simp only [List.length_cons, Region.seqB, Bool.and_eq_true, decide_eq_true_eq] at hB
    refine ⟨fun h1 => (by rw [hB.1] at h1; cases h1), fun i hi => ?_⟩
    rw [hB.1] at hi
    obtain rfl : i = k := by simpa using hi
    unfold wpOpIn
    simp only [hok, Region.wanted, hg, if_true]
    refine Oper.wpIn_mono (fun a' w' hb => ⟨hb.1, fun u hu => ih (i + 1) _ a' u (fun j hj => ?_) hB.2 (hb.2 u hu)⟩) h
    have := hat (j + 1) (by simp; omega)
    simpa [Nat.add_assoc, Nat.add_comm 1 j] using this
end
end Go.Proofs.YtnedcclmfokdnaaGreat
namespace Go.Proofs.YtnedcclmfokdnaaGreat
open Go Go.RowKit
section
variable {P : Program} {ops : Array Oper} {G : World → Prop} {Q : Exit → Act → World → Prop} {S : Nat → Bool} {r : Option Nat} {n : Nat}
def BoxSG (s : Bool) (G : World → Prop) (K : Act → World → Prop) (a : Act) (w : World) : Prop := if s then K a w else BoxedG G K a w
theorem BoxSG.now {s : Bool} {K : Act → World → Prop} {a : Act} {w : World} (h : BoxSG s G K a w) : K a w := by
  cases s
  · exact (show BoxedG G K a w from h).2 w (Below.refl _ _)
  · exact h
def wpCG (r : Option Nat) (n : Nat) (P : Program) (ops : Array Oper) (G : World → Prop) (S : Nat → Bool) (Q : Exit → Act → World → Prop) : Nat → Array Bool → Act → World → Prop
  | 0, listed, a, w => Region.ready .any ops listed = [] ∧ Q .normal a w
  | f + 1, listed, a, w => (Region.ready .any ops listed = [] → Q .normal a w) ∧ ∀ i ∈ Region.ready .any ops listed, wpOpIn (Fr r) n P ops Q i (BoxSG (S i) G (wpCG r n P ops G S Q f (listed.setIfInBounds i true))) a w
theorem wpCG.any : ∀ (f : Nat) (listed : Array Bool) (a : Act) (w : World), wpCG r n P ops G S Q f listed a w → wpAnyIn (Fr r) n P .any ops Q f listed a w
  | 0, _, _, _, h => h
  | f + 1, _, _, _, h => ⟨h.1, fun i hi => wpOpIn_mono (fun a' w' hb => wpCG.any f _ a' w' hb.now) (h.2 i hi)⟩
def closedL (ops : Array Oper) (listed : Array Bool) : Prop := ∀ k o, ops[k]? = some o → listed.getD k false = true → ∀ e ∈ o.after, Region.binds .any e = true → listed.getD e.on false = true
theorem getD_keep {listed : Array Bool} {j m : Nat} (h : listed.getD m false = true) : (listed.setIfInBounds j true).getD m false = true := by
  have hm : m < listed.size := by
    rcases Nat.lt_or_ge m listed.size with h2 | h2
    · exact h2
    · simp [Array.getElem?_eq_none h2] at h
  simp only [Array.getD_eq_getD_getElem?, Array.getElem?_setIfInBounds] at h ⊢
  split
  · simp_all
  · exact h
theorem closedL.set {listed : Array Bool} (h : closedL ops listed) {j : Nat} (hj : j ∈ Region.ready .any ops listed) : closedL ops (listed.setIfInBounds j true) := by
  obtain ⟨_, oj, hoj, hdone⟩ := mem_ready.1 hj
  intro k o hk hl e he hb
  by_cases ek : j = k
  · subst ek
    rw [hoj] at hk; cases hk
    exact getD_keep (hdone e he hb)
  · have hl2 : listed.getD k false = true := by
      simp only [Array.getD_eq_getD_getElem?, Array.getElem?_setIfInBounds, if_neg ek] at hl ⊢
      exact hl
    exact getD_keep (h k o hk hl2 e he hb)
def waitsT (ops : Array Oper) (i : Nat) : Nat → Nat → Bool
  | 0, _ => false
  | f + 1, j => match ops[j]? with
    | some o => o.after.any fun e => Region.binds .any e && decide (e.on < ops.size) && (e.on == i || waitsT ops i f e.on)
    | none => false
theorem waitsT_listed {listed : Array Bool} (h : closedL ops listed) {i : Nat} : ∀ (f j : Nat), waitsT ops i f j = true → (∀ o, ops[j]? = some o → ∀ e ∈ o.after, Region.binds .any e = true → listed.getD e.on false = true) → listed.getD i false = true
  | 0, _, hw, _ => by cases hw
  | f + 1, j, hw, hl => by
    unfold waitsT at hw
    cases ho : ops[j]? with
    | none => rw [ho] at hw; cases hw
    | some o =>
      rw [ho] at hw
      obtain ⟨e, he, hb⟩ := Array.any_eq_true'.1 hw
      simp only [Bool.and_eq_true, Bool.or_eq_true, beq_iff_eq, decide_eq_true_eq] at hb
      obtain ⟨⟨h1, h2⟩, h3⟩ := hb
      have hle := hl o ho e he h1
      rcases h3 with h3 | h3
      · rw [← h3]; exact hle
      · exact waitsT_listed h f e.on h3 fun o' ho' e' he' hb' => h e.on o' ho' hle e' he' hb'
theorem wpCG.first (hG : ∀ u u', G u → Below u.heap.size u u' → G u') (hd : noDefer ops = true) {i : Nat} {o : Oper} {v : Value} (hi : ops[i]? = some o) (hns : Region.noSelect ops = true) (hQ : ∀ c a d v w, Q (.panic c) (Act.put a d v) w → Q (.panic c) a w)
    (hSi : S i = false) (hS : ∀ j, j < ops.size → S j = true → waitsT ops i ops.size j = true) (f : Nat) :
    ∀ (listed : Array Bool) (a : Act) (w : World), closedL ops listed → G w →
      (∀ j oj, ops[j]? = some oj → j ≠ i → listed.getD j true = false → (∀ e ∈ oj.after, Region.binds .any e = true → e.on ≠ i) → o.apart ops oj = true) →
      i ∈ Region.ready .any ops listed → YRelG P ops G o v a → (∀ u, Below w.heap.size w u → wpCG r n P ops G S Q f (listed.setIfInBounds i true) (a.put o.dst v) u) →
      ∀ u, Below w.heap.size w u → wpCG r n P ops G S Q (f + 1) listed a u := by
  have hsel := Region.noSelect_spec hns
  induction f with
  | zero =>
    intro listed a w _ hw _ hr hy H u hu
    refine ⟨fun h => (by rw [h] at hr; cases hr), fun j hj => ?_⟩
    by_cases e : j = i
    · subst e
      rw [hSi]
      exact hy.op hG hd hi (hG _ _ hw hu) fun u' hu' => H u' (below_then hu hu')
    · have h1 := ready_mono hj e
      rw [(H u hu).1] at h1
      cases h1
  | succ f ih =>
    intro listed a w hcl hw hfree hr hy H u hu
    refine ⟨fun h => (by rw [h] at hr; cases hr), fun j hj => ?_⟩
    by_cases e : j = i
    · subst e
      rw [hSi]
      exact hy.op hG hd hi (hG _ _ hw hu) fun u' hu' => H u' (below_then hu hu')
    · obtain ⟨hun, _⟩ := mem_ready.1 hr
      obtain ⟨huj, oj, hoj, hdone⟩ := mem_ready.1 hj
      have hfar : ∀ x ∈ oj.after, Region.binds .any x = true → x.on ≠ i := by
        intro x hx hb hxi
        have := hdone x hx hb
        rw [hxi] at this
        rcases Nat.lt_or_ge i listed.size with hl | hl
        · simp [hl] at hun this; rw [hun] at this; cases this
        · simp [Array.getElem?_eq_none hl] at hun
      have hSj : S j = false := by
        cases hs : S j with
        | false => rfl
        | true =>
          have h9 := waitsT_listed hcl ops.size j (hS j (Array.getElem?_eq_some_iff.1 hoj).1 hs) (fun o ho e he hb => by rw [hoj] at ho; cases ho; exact hdone e he hb)
          rcases Nat.lt_or_ge i listed.size with hl | hl
          · simp [hl] at hun h9; rw [hun] at h9; cases h9
          · simp [Array.getElem?_eq_none hl] at hun
      have h2 := boxedG_put (r := r) (n := n) hd hoj (hfree j oj hoj e huj hfar) (fun cs b => hsel i o cs b hi) (fun cs b => hsel j oj cs b hoj) (fun c a' w' => hQ c a' _ _ w') hy ((H u hu).2 j (ready_mono hj e))
      rw [hSj] at h2 ⊢
      refine wpOpIn_mono (fun a' w' hb => ?_) h2
      obtain ⟨hy', hb', hall⟩ := hb
      refine ⟨hb', fun u' hu' => ih (listed.setIfInBounds j true) a' w' (hcl.set hj) hb' (fun m om hm hmi hum hnm => ?_) (ready_mono hr (Ne.symm e)) hy' (fun u'' hu'' => ?_) u' hu'⟩
      · have hum' : listed.getD m true = false := by
          by_cases e2 : j = m
          · subst e2; exact huj
          · rw [getD_set_ne true e2] at hum; exact hum
        exact hfree m om hm hmi hum' hnm
      · rw [Array.setIfInBounds_comm _ _ e]; exact hall u'' hu''
theorem wpCG.close : ∀ (cs : List Nat) (listed : Array Bool) (a : Act) (w : World), cs.all (fun i => decide (i < ops.size)) = true → cs.all S = true → seqI ops cs listed = true → wpListIn (Fr r) n P ops Q (pick ops cs) a w → wpCG r n P ops G S Q cs.length listed a w
  | [], listed, a, w, _, _, hB, h => ⟨by simpa [seqI] using hB, h⟩
  | i :: cs, listed, a, w, hl, hs, hB, h => by
    simp only [List.all_cons, Bool.and_eq_true, decide_eq_true_eq] at hl hs
    obtain ⟨o, ho⟩ : ∃ o, ops[i]? = some o := ⟨_, Array.getElem?_eq_getElem hl.1⟩
    rw [pick_cons ho] at h
    simp only [seqI, Bool.and_eq_true, decide_eq_true_eq] at hB
    refine ⟨fun h1 => (by rw [hB.1] at h1; cases h1), fun j hj => ?_⟩
    rw [hB.1] at hj
    obtain rfl : j = i := by simpa using hj
    rw [hs.1]
    unfold wpOpIn
    unfold wpListIn at h
    simp only [ho]
    cases hw : Region.wanted o (yielded ops a.tmps) with
    | true =>
      simp only [hw, if_true] at h ⊢
      exact Oper.wpIn_mono (fun a' w' hb => wpCG.close cs _ a' w' hl.2 hs.2 hB.2 hb) h
    | false =>
      simp only [hw, Bool.false_eq_true, if_false] at h ⊢
      exact ⟨fun _ _ => trivial, wpCG.close cs _ _ w hl.2 hs.2 hB.2 h.2⟩
def wpMidG (r : Option Nat) (n : Nat) (P : Program) (G : World → Prop) (Q : Exit → Act → World → Prop) (E : Act → World → Prop) : List Oper → Act → World → Prop
  | [], a, w => E a w
  | o :: rest, a, w => o.guard = none ∧ o.wpIn (Fr r) n P a w (BoxedG G (wpMidG r n P G Q E rest)) Q
theorem wpCG.mid {cs : List Nat} {E : Act → World → Prop} (hend : ∀ listed a w, seqI ops cs listed = true → E a w → wpCG r n P ops G S Q cs.length listed a w) :
    ∀ (ts : List Nat) (listed : Array Bool) (a : Act) (w : World), ts.all (fun i => decide (i < ops.size)) = true → ts.all (fun i => !S i) = true → seqI ops (ts ++ cs) listed = true → wpMidG r n P G Q E (pick ops ts) a w → wpCG r n P ops G S Q (ts.length + cs.length) listed a w
  | [], listed, a, w, _, _, hB, h => by rw [List.length_nil, Nat.zero_add]; exact hend listed a w hB h
  | i :: ts, listed, a, w, hl, hs, hB, h => by
    simp only [List.all_cons, Bool.and_eq_true, decide_eq_true_eq, Bool.not_eq_true'] at hl hs
    obtain ⟨o, ho⟩ : ∃ o, ops[i]? = some o := ⟨_, Array.getElem?_eq_getElem hl.1⟩
    rw [pick_cons ho] at h
    obtain ⟨hg, h⟩ := h
    simp only [List.cons_append, seqI, Bool.and_eq_true, decide_eq_true_eq] at hB
    rw [List.length_cons, Nat.add_right_comm]
    refine ⟨fun h1 => (by rw [hB.1] at h1; cases h1), fun j hj => ?_⟩
    rw [hB.1] at hj
    obtain rfl : j = i := by simpa using hj
    rw [hs.1]
    unfold wpOpIn
    simp only [ho, Region.wanted, hg, if_true]
    exact Oper.wpIn_mono (fun a' w' hb => ⟨hb.1, fun u hu => wpCG.mid hend ts _ a' u hl.2 (by simpa using hs.2) hB.2 (hb.2 u hu)⟩) h
theorem wpCG.headI_ (hG : ∀ u u', G u → Below u.heap.size u u' → G u') (hd : noDefer ops = true) {ts : List Nat} {D : Act → Prop} (hns : Region.noSelect ops = true) (hQ : ∀ c a d v w, Q (.panic c) (Act.put a d v) w → Q (.panic c) a w) (w : World) (hw : G w)
    (hend : ∀ listed a, seqI ops ts listed = true → D a → ∀ u, Below w.heap.size w u → wpCG r n P ops G S Q ts.length listed a u) :
    ∀ (hs : List Nat) (listed : Array Bool) (a : Act), closedL ops listed → hs.all (fun i => decide (i < ops.size)) = true → hs.all (fun i => !S i) = true → (∀ i ∈ hs, ∀ j, j < ops.size → S j = true → waitsT ops i ops.size j = true) →
      headI ops ts hs listed = true → wpRelS P ops G D (pick ops hs) a →
      ∀ u, Below w.heap.size w u → wpCG r n P ops G S Q (hs.length + ts.length) listed a u
  | [], listed, a, _, _, _, _, hB, h, u, hu => by rw [List.length_nil, Nat.zero_add]; exact hend listed a hB h u hu
  | i :: hs, listed, a, hcl, hl, hn, hS, hB, h, u, hu => by
    simp only [List.all_cons, Bool.and_eq_true, decide_eq_true_eq, Bool.not_eq_true'] at hl hn
    obtain ⟨o, ho⟩ : ∃ o, ops[i]? = some o := ⟨_, Array.getElem?_eq_getElem hl.1⟩
    rw [pick_cons ho] at h
    simp only [headI, Bool.and_eq_true] at hB
    obtain ⟨v, hy, hD⟩ := yrelG_of_step h
    rw [List.length_cons, Nat.add_right_comm]
    exact wpCG.first hG hd ho hns hQ hn.1 (hS i (by simp)) (hs.length + ts.length) listed a w hcl hw (Region.free_spec ho hB.1.2) (by simpa using hB.1.1) hy
      (fun u' hu' => wpCG.headI_ hG hd hns hQ w hw hend hs _ _ (hcl.set (by simpa using hB.1.1)) hl.2 (by simpa using hn.2) (fun k hk => hS k (by simp [hk])) hB.2 hD u' hu') u hu
def waitsTB (ops : Array Oper) (hs cs : List Nat) : Bool := cs.all fun j => hs.all fun i => waitsT ops i ops.size j
def pickedTB (ops : Array Oper) (hs ts cs : List Nat) : Bool :=
  Region.noSelect ops && (hs.all fun i => decide (i < ops.size)) && (ts.all fun i => decide (i < ops.size)) && (cs.all fun i => decide (i < ops.size)) && decide (hs.length + (ts ++ cs).length = ops.size) &&
    (hs.all fun i => !cs.contains i) && (ts.all fun i => !cs.contains i) && waitsTB ops hs cs && headI ops (ts ++ cs) hs (Array.replicate ops.size false)
theorem closedL_none (n : Nat) : closedL ops (Array.replicate n false) := fun k _ _ h => by
  rcases Nat.lt_or_ge k n with hk | hk
  · simp [hk] at h
  · simp [Nat.not_lt.2 hk] at h
theorem wpIn_region_picked {id : Nat} {a : Act} {w : World} {l : List Oper} (hs ts cs : List Nat) (hm : P.follows .mixedOrders = true) (hB : (noDefer l.toArray && pickedTB l.toArray hs ts cs) = true) (hQ : ∀ c a d v w, Q (.panic c) (Act.put a d v) w → Q (.panic c) a w)
    (h : wpRelS P l.toArray (Below w.heap.size w) (fun a' => ∀ g : Gr w, wpMidG r n P (Below w.heap.size w) Q (wpListIn (Fr r) n P l.toArray Q (pick l.toArray cs)) (pick l.toArray ts) a' g.val) (pick l.toArray hs) a) : (Code.region id l.toArray true).wpIn (Fr r) n P Q a w := by
  simp only [pickedTB, Bool.and_eq_true, decide_eq_true_eq] at hB
  obtain ⟨hd, ⟨⟨⟨⟨⟨⟨⟨hns, h1⟩, h2⟩, h3⟩, h4⟩, h5⟩, h6⟩, h7⟩, h8⟩ := hB
  have hc : cs.all (fun i => cs.contains i) = true := by simp
  have H := wpCG.headI_ (r := r) (n := n) (Q := Q) (G := Below w.heap.size w) (S := fun i => cs.contains i) (ts := ts ++ cs) (D := fun a' => ∀ g : Gr w, wpMidG r n P (Below w.heap.size w) Q (wpListIn (Fr r) n P l.toArray Q (pick l.toArray cs)) (pick l.toArray ts) a' g.val) (fun u u' a b => below_then a b) hd hns hQ w (Below.refl _ _)
    (fun listed a' hs' hD u hu => by
      rw [List.length_append]
      exact wpCG.mid (cs := cs) (fun li a2 w2 hs2 hE => wpCG.close cs li a2 w2 h3 hc hs2 hE) ts listed a' u h2 h6 hs' (hD ⟨u, hu⟩)) hs _ a (closedL_none _) h1 h5 (fun i hi j _ hSj => List.all_eq_true.1 (List.all_eq_true.1 h7 j (by simpa using hSj)) i hi) h8 h w.drew ((Below.refl _ _).drew)
  refine wpIn_region_any hm ?_
  rw [h4] at H
  exact wpCG.any _ _ _ _ H
theorem wpRelS_of {w0 : World} {D : Act → Prop} : ∀ (l : List Oper) (a : Act), wpRel P ops w0 D l a → wpRelS P ops (Below w0.heap.size w0) D l a
  | [], _, h => h
  | o :: l, a, h => by
    unfold wpRel at h
    unfold wpRelS
    cases hw : Region.wanted o (yielded ops a.tmps) with
    | true =>
      simp only [hw, if_true] at h ⊢
      obtain ⟨v, h1, h2⟩ := h
      exact ⟨v, fun u hu => h1 ⟨u, hu⟩, wpRelS_of l _ h2⟩
    | false =>
      simp only [hw, Bool.false_eq_true, if_false] at h ⊢
      exact wpRelS_of l _ h
theorem wpIn_region_picked' {id : Nat} {a : Act} {w : World} {l : List Oper} (hs ts cs : List Nat) (hm : P.follows .mixedOrders = true) (hB : (noDefer l.toArray && pickedTB l.toArray hs ts cs) = true) (hQ : ∀ c a d v w, Q (.panic c) (Act.put a d v) w → Q (.panic c) a w)
    (h : (∀ (g : Gr w) b o, b < w.heap.size → g.val.cell? ⟨b, o, none⟩ = w.cell? ⟨b, o, none⟩) →
      wpRel P l.toArray w (fun a' => ∀ g : Gr w, wpMidG r n P (Below w.heap.size w) Q (wpListIn (Fr r) n P l.toArray Q (pick l.toArray cs)) (pick l.toArray ts) a' g.val) (pick l.toArray hs) a) : (Code.region id l.toArray true).wpIn (Fr r) n P Q a w :=
  wpIn_region_picked hs ts cs hm hB hQ (wpRelS_of _ _ (h fun g b o h => g.b.cell (p := ⟨b, o, none⟩) h))
def noPanic (Q : Exit → Act → World → Prop) : Exit → Act → World → Prop
  | .panic _, _, _ => False
  | e, a, w => Q e a w
theorem wpIn_region_picked_quiet {id : Nat} {a : Act} {w : World} {l : List Oper} (hs ts cs : List Nat) (hm : P.follows .mixedOrders = true) (hB : (noDefer l.toArray && pickedTB l.toArray hs ts cs) = true)
    (h : (∀ (g : Gr w) b o, b < w.heap.size → g.val.cell? ⟨b, o, none⟩ = w.cell? ⟨b, o, none⟩) →
      wpRel P l.toArray w (fun a' => ∀ g : Gr w, wpMidG r n P (Below w.heap.size w) (noPanic Q) (wpListIn (Fr r) n P l.toArray (noPanic Q) (pick l.toArray cs)) (pick l.toArray ts) a' g.val) (pick l.toArray hs) a) : (Code.region id l.toArray true).wpIn (Fr r) n P Q a w := by
  refine wpIn_mono (wpIn_region_picked' (Q := noPanic Q) hs ts cs hm hB (fun c a d v w h => h) h) ?_
  intro e a' w' h
  cases e with
  | panic c => exact h.elim
  | normal => exact h
  | ret => exact h
  | exit id => exact h
  | goto t => exact h
  | outgrown => exact h
end
end Go.Proofs.YtnedcclmfokdnaaGreat
namespace Go.Proofs.YtnedcclmfokdnaaGreat
open Go Go.RowKit
section
variable {P : Program} {ops : Array Oper} {w0 : World} {Q : Exit → Act → World → Prop} {S : Nat → Bool}
theorem wpC.first2 {i : Nat} {o : Oper} {v : Value} (hi : ops[i]? = some o) (hns : Region.noSelect ops = true) (hQ : ∀ c a d v w, Q (.panic c) (Act.put a d v) w → Q (.panic c) a w)
    (hSi : S i = false) (hS : ∀ j, j < ops.size → S j = true → waitsT ops i ops.size j = true) (f : Nat) :
    ∀ (listed : Array Bool) (a : Act) (w : World), closedL ops listed → Below w0.heap.size w0 w →
      (∀ j oj, ops[j]? = some oj → j ≠ i → listed.getD j true = false → (∀ e ∈ oj.after, Region.binds .any e = true → e.on ≠ i) → o.apart ops oj = true) →
      i ∈ Region.ready .any ops listed → YRel P ops w0 o v a → (∀ u, Below w.heap.size w u → wpC P ops w0 S Q f (listed.setIfInBounds i true) (a.put o.dst v) u) →
      ∀ u, Below w.heap.size w u → wpC P ops w0 S Q (f + 1) listed a u := by
  have hsel := Region.noSelect_spec hns
  induction f with
  | zero =>
    intro listed a w _ hw _ hr hy H u hu
    refine ⟨fun h => (by rw [h] at hr; cases hr), fun j hj => ?_⟩
    by_cases e : j = i
    · subst e
      rw [hSi]
      exact hy.op hi (below_then hw hu) fun u' hu' => H u' (below_then hu hu')
    · have h1 := ready_mono hj e
      rw [(H u hu).1] at h1
      cases h1
  | succ f ih =>
    intro listed a w hcl hw hfree hr hy H u hu
    refine ⟨fun h => (by rw [h] at hr; cases hr), fun j hj => ?_⟩
    by_cases e : j = i
    · subst e
      rw [hSi]
      exact hy.op hi (below_then hw hu) fun u' hu' => H u' (below_then hu hu')
    · obtain ⟨hun, _⟩ := mem_ready.1 hr
      obtain ⟨huj, oj, hoj, hdone⟩ := mem_ready.1 hj
      have hfar : ∀ x ∈ oj.after, Region.binds .any x = true → x.on ≠ i := by
        intro x hx hb hxi
        have := hdone x hx hb
        rw [hxi] at this
        rcases Nat.lt_or_ge i listed.size with hl | hl
        · simp [hl] at hun this; rw [hun] at this; cases this
        · simp [Array.getElem?_eq_none hl] at hun
      have hSj : S j = false := by
        cases hs : S j with
        | false => rfl
        | true =>
          have h9 := waitsT_listed hcl ops.size j (hS j (Array.getElem?_eq_some_iff.1 hoj).1 hs) (fun o ho e he hb => by rw [hoj] at ho; cases ho; exact hdone e he hb)
          rcases Nat.lt_or_ge i listed.size with hl | hl
          · simp [hl] at hun h9; rw [hun] at h9; cases h9
          · simp [Array.getElem?_eq_none hl] at hun
      have h2 := boxed_put (w0 := w0) hoj (hfree j oj hoj e huj hfar) (fun cs b => hsel i o cs b hi) (fun cs b => hsel j oj cs b hoj) (fun c a' w' => hQ c a' _ _ w') hy ((H u hu).2 j (ready_mono hj e))
      rw [hSj] at h2 ⊢
      refine wpOp_mono (fun a' w' hb => ?_) h2
      obtain ⟨hy', hb', hall⟩ := hb
      refine ⟨hb', fun u' hu' => ih (listed.setIfInBounds j true) a' w' (hcl.set hj) hb' (fun m om hm hmi hum hnm => ?_) (ready_mono hr (Ne.symm e)) hy' (fun u'' hu'' => ?_) u' hu'⟩
      · have hum' : listed.getD m true = false := by
          by_cases e2 : j = m
          · subst e2; exact huj
          · rw [getD_set_ne true e2] at hum; exact hum
        exact hfree m om hm hmi hum' hnm
      · rw [Array.setIfInBounds_comm _ _ e]; exact hall u'' hu''
theorem BoxS.base {s : Bool} {w1 : World} (hb : Below w0.heap.size w0 w1) {K K' : Act → World → Prop} (hK : ∀ a w, K a w → K' a w) {a : Act} {w : World} (h : BoxS s w1 K a w) : BoxS s w0 K' a w := by
  cases s
  · have h' : Boxed w1 K a w := h
    exact (show Boxed w0 K' a w from ⟨below_then hb h'.1, fun u hu => hK _ _ (h'.2 u hu)⟩)
  · exact hK _ _ h
theorem wpC.base {w1 : World} (hb : Below w0.heap.size w0 w1) : ∀ (f : Nat) (listed : Array Bool) (a : Act) (w : World), wpC P ops w1 S Q f listed a w → wpC P ops w0 S Q f listed a w
  | 0, _, _, _, h => h
  | f + 1, _, _, _, h => ⟨h.1, fun i hi => wpOp_mono (fun _ _ hx => hx.base hb fun a w h => wpC.base hb f _ a w h) (h.2 i hi)⟩
inductive Stp where
  | f (is : List Nat)
  | s (i : Nat)
def Stp.is : Stp → List Nat
  | .f is => is
  | .s i => [i]
def setsL : List Nat → Array Bool → Array Bool
  | [], listed => listed
  | i :: is, listed => setsL is (listed.setIfInBounds i true)
def firstB (ops : Array Oper) : List Nat → Array Bool → Bool
  | [], _ => true
  | i :: is, listed => ((Region.ready .any ops listed).contains i && Region.free .any ops listed i) && firstB ops is (listed.setIfInBounds i true)
def planB (ops : Array Oper) (cs : List Nat) : List Stp → Array Bool → Bool
  | [], listed => seqI ops cs listed
  | .f is :: ps, listed => firstB ops is listed && planB ops cs ps (setsL is listed)
  | .s i :: ps, listed => decide (Region.ready .any ops listed = [i]) && planB ops cs ps (listed.setIfInBounds i true)
def lenP : List Stp → Nat
  | [] => 0
  | .f is :: ps => is.length + lenP ps
  | .s _ :: ps => lenP ps + 1
def wpPlan (P : Program) (ops : Array Oper) (Q : Exit → Act → World → Prop) (E : Act → World → Prop) : List Stp → Act → World → Prop
  | [], a, w => E a w
  | .f is :: ps, a, w => wpRel P ops w (fun a' => ∀ u, Below w.heap.size w u → wpPlan P ops Q E ps a' u) (pick ops is) a
  | .s i :: ps, a, w => ∃ o, ops[i]? = some o ∧ o.guard = none ∧ o.wp P a w (Boxed w (wpPlan P ops Q E ps)) Q
theorem wpC.group (hns : Region.noSelect ops = true) (hQ : ∀ c a d v w, Q (.panic c) (Act.put a d v) w → Q (.panic c) a w) {D : Act → Prop} {g : Nat} (w : World) (hw : Below w0.heap.size w0 w) :
    ∀ (is : List Nat) (listed : Array Bool) (a : Act), closedL ops listed → is.all (fun i => decide (i < ops.size)) = true → is.all (fun i => !S i) = true → (∀ i ∈ is, ∀ j, j < ops.size → S j = true → waitsT ops i ops.size j = true) → firstB ops is listed = true →
      (closedL ops (setsL is listed) → ∀ a', D a' → ∀ u, Below w.heap.size w u → wpC P ops w0 S Q g (setsL is listed) a' u) → wpRel P ops w0 D (pick ops is) a → ∀ u, Below w.heap.size w u → wpC P ops w0 S Q (is.length + g) listed a u
  | [], listed, a, hcl, _, _, _, _, hend, h, u, hu => by rw [List.length_nil, Nat.zero_add]; exact hend hcl a h u hu
  | i :: is, listed, a, hcl, hl, hn, hS, hB, hend, h, u, hu => by
    simp only [List.all_cons, Bool.and_eq_true, decide_eq_true_eq, Bool.not_eq_true'] at hl hn
    obtain ⟨o, ho⟩ : ∃ o, ops[i]? = some o := ⟨_, Array.getElem?_eq_getElem hl.1⟩
    rw [pick_cons ho] at h
    simp only [firstB, Bool.and_eq_true] at hB
    have hri : i ∈ Region.ready .any ops listed := by simpa using hB.1.1
    obtain ⟨v, hy, hD⟩ := yrel_of_step h
    rw [List.length_cons, Nat.add_right_comm]
    exact wpC.first2 ho hns hQ hn.1 (hS i (by simp)) (is.length + g) listed a w hcl hw (Region.free_spec ho hB.1.2) hri hy
      (fun u' hu' => wpC.group hns hQ w hw is _ _ (hcl.set hri) hl.2 (by simpa using hn.2) (fun k hk => hS k (by simp [hk])) hB.2 hend hD u' hu') u hu
theorem wpC.plan {cs : List Nat} {E : Act → World → Prop} (hns : Region.noSelect ops = true) (hQ : ∀ c a d v w, Q (.panic c) (Act.put a d v) w → Q (.panic c) a w)
    (hend : ∀ listed a w, seqI ops cs listed = true → E a w → ∀ w1, wpC P ops w1 S Q cs.length listed a w) :
    ∀ (ps : List Stp) (listed : Array Bool) (a : Act) (w : World), closedL ops listed → ps.all (fun p => p.is.all fun i => decide (i < ops.size)) = true → ps.all (fun p => p.is.all fun i => !S i) = true → (∀ p ∈ ps, ∀ i ∈ p.is, ∀ j, j < ops.size → S j = true → waitsT ops i ops.size j = true) →
      planB ops cs ps listed = true → wpPlan P ops Q E ps a w → wpC P ops w S Q (lenP ps + cs.length) listed a w
  | [], listed, a, w, _, _, _, _, hB, h => by rw [lenP, Nat.zero_add]; exact hend listed a w hB h w
  | .f is :: ps, listed, a, w, hcl, hl, hn, hS, hB, h => by
    rw [List.all_cons, Bool.and_eq_true] at hl hn
    simp only [planB, Bool.and_eq_true] at hB
    rw [lenP, Nat.add_assoc]
    refine wpC.group hns hQ w (Below.refl _ _) is listed a hcl hl.1 hn.1 (fun i hi => hS _ (List.mem_cons_self ..) i hi) hB.1 (fun hcl2 a' hD u hu => ?_) h w (Below.refl _ _)
    exact wpC.base hu _ _ _ _ (wpC.plan hns hQ hend ps _ _ u hcl2 hl.2 hn.2 (fun p hp => hS p (List.mem_cons_of_mem _ hp)) hB.2 (hD u hu))
  | .s i :: ps, listed, a, w, hcl, hl, hn, hS, hB, h => by
    rw [List.all_cons, Bool.and_eq_true] at hl hn
    have hSi : S i = false := by have := hn.1; simpa [Stp.is] using this
    obtain ⟨o, ho, hg, h⟩ := h
    simp only [planB, Bool.and_eq_true, decide_eq_true_eq] at hB
    rw [lenP, Nat.add_right_comm]
    have hri : i ∈ Region.ready .any ops listed := by rw [hB.1]; simp
    refine ⟨fun h1 => (by rw [hB.1] at h1; cases h1), fun j hj => ?_⟩
    rw [hB.1] at hj
    obtain rfl : j = i := by simpa using hj
    rw [hSi]
    unfold wpOp
    simp only [ho, Region.wanted, hg, if_true]
    refine .inl (Oper.wp_mono (fun a' w' hb => ?_) h)
    exact (show Boxed w _ a' w' from ⟨hb.1, fun u hu => wpC.base (below_then hb.1 hu) _ _ _ _ (wpC.plan hns hQ hend ps _ a' u (hcl.set hri) hl.2 hn.2 (fun p hp => hS p (List.mem_cons_of_mem _ hp)) hB.2 (hb.2 u hu))⟩)
end
end Go.Proofs.YtnedcclmfokdnaaGreat
namespace Go.Proofs.YtnedcclmfokdnaaGreat
open Go Go.RowKit
section
variable {P : Program} {ops : Array Oper} {w0 : World} {Q : Exit → Act → World → Prop} {S : Nat → Bool}
end
end Go.Proofs.YtnedcclmfokdnaaGreat
namespace Go.Proofs.YtnedcclmfokdnaaGreat
open Go Go.RowKit
section
variable {P : Program} {ops : Array Oper} {w0 : World} {Q : Exit → Act → World → Prop} {S : Nat → Bool}
def YP (P : Program) (ops : Array Oper) (o : Oper) (v : Value) (a : Act) : Prop := Region.wanted o (yielded ops a.tmps) = true ∧ ∀ u, (execOp a.eval o).run P u = .ok (.value v) u
theorem YP.same {o : Oper} {v : Value} {a a' : Act} (h : YP P ops o v a) (he : execOp a'.eval o = execOp a.eval o) (hw : Region.wanted o (yielded ops a'.tmps) = Region.wanted o (yielded ops a.tmps)) : YP P ops o v a' := by
  unfold YP at *
  rw [he, hw]
  exact h
theorem YP.op {i : Nat} {o : Oper} {v : Value} {a : Act} (hi : ops[i]? = some o) (h : YP P ops o v a) {K : Act → World → Prop} {u : World} (hK : K (a.put o.dst v) u) : wpOp P ops Q i K a u := by
  obtain ⟨hw, hr⟩ := h
  unfold wpOp
  simp only [hi, hw, if_true]
  refine .inl ?_
  unfold Oper.wp
  rw [hr u]
  exact hK
theorem pure_put {j : Nat} {oi oj : Oper} {v : Value} (hj : ops[j]? = some oj) (hap : oi.apart ops oj = true) (hsi : ∀ cs b, oi.op ≠ .select cs b) (hsj : ∀ cs b, oj.op ≠ .select cs b)
    (hQ : ∀ c a w, Q (.panic c) (a.put oi.dst v) w → Q (.panic c) a w) {K : Act → World → Prop} {a : Act} {w : World} (hy : YP P ops oi v a) (h : wpOp P ops Q j K (a.put oi.dst v) w) :
    wpOp P ops Q j (fun a' w' => YP P ops oi v a' ∧ K (a'.put oi.dst v) w') a w := by
  obtain ⟨h1, h2, h3⟩ := Oper.apart_spec hap
  have keep : ∀ u, YP P ops oi v (a.put oj.dst u) := fun u => hy.same (execOp_put oi hsi a oj.dst u h3) (wanted_put oi a oj.dst u h3)
  have back : ∀ u, (a.put oi.dst v).put oj.dst u = (a.put oj.dst u).put oi.dst v := fun u => Act.put_comm a v u h2
  unfold wpOp at *
  simp only [hj] at *
  rw [wanted_put oj a oi.dst v h1] at h
  cases hw : Region.wanted oj (yielded ops a.tmps) with
  | false =>
    simp only [hw, Bool.false_eq_true, if_false] at h ⊢
    exact ⟨keep _, by rw [← back]; exact h⟩
  | true =>
    simp only [hw, if_true] at h ⊢
    rcases h with h | ⟨ha, hl⟩
    · refine .inl ?_
      unfold Oper.wp at *
      rw [execOp_put oj hsj a oi.dst v h1] at h
      generalize (execOp a.eval oj).run P w = r at *
      match r, h with
      | .ok (.value u) w', h => exact ⟨keep u, by rw [← back]; exact h⟩
      | .ok .skip w', h => exact ⟨keep _, by rw [← back]; exact h⟩
      | .ok (.defer d) w', h =>
        refine ⟨YP.same (a := a) (hy) ?_ ?_, ?_⟩
        · exact execOp_put oi hsi { a with defers := d :: a.defers } oj.dst undef h3
        · exact wanted_put oi { a with defers := d :: a.defers } oj.dst undef h3
        · have e := Act.put_comm { a with defers := d :: a.defers } v undef h2
          rw [← e, ← Act.put_defers]
          exact h
      | .ok (.enter f args) w', h =>
        refine Calls.mono h fun e w'' he => ?_
        match e, he with
        | .returned u, he => exact ⟨keep u, by rw [← back]; exact he⟩
        | .panicked c, he => exact hQ _ _ _ he
        | .outgrown, he => exact he
      | .ok (.row row args) w', h => exact Rows.mono h fun u w'' he => ⟨keep u, by rw [← back]; exact he⟩
      | .halt (.panic u) w', h => exact hQ _ _ _ h
    · refine .inr ⟨?_, hl⟩
      unfold Oper.asks at *
      rw [execOp_put oj hsj a oi.dst v h1] at ha
      exact ha
theorem wpC.pure {i : Nat} {o : Oper} {v : Value} (hi : ops[i]? = some o) (hns : Region.noSelect ops = true) (hQ : ∀ c a d v w, Q (.panic c) (Act.put a d v) w → Q (.panic c) a w) (hSi : S i = true) (f : Nat) :
    ∀ (listed : Array Bool) (a : Act) (w : World),
      (∀ j oj, ops[j]? = some oj → j ≠ i → listed.getD j true = false → (∀ e ∈ oj.after, Region.binds .any e = true → e.on ≠ i) → o.apart ops oj = true) →
      i ∈ Region.ready .any ops listed → YP P ops o v a → wpC P ops w0 S Q f (listed.setIfInBounds i true) (a.put o.dst v) w → wpC P ops w0 S Q (f + 1) listed a w := by
  have hsel := Region.noSelect_spec hns
  induction f with
  | zero =>
    intro listed a w _ hr hy H
    refine ⟨fun h => (by rw [h] at hr; cases hr), fun j hj => ?_⟩
    by_cases e : j = i
    · subst e
      rw [hSi]
      exact hy.op hi H
    · have h1 := ready_mono hj e
      rw [H.1] at h1
      cases h1
  | succ f ih =>
    intro listed a w hfree hr hy H
    refine ⟨fun h => (by rw [h] at hr; cases hr), fun j hj => ?_⟩
    by_cases e : j = i
    · subst e
      rw [hSi]
      exact hy.op hi H
    · obtain ⟨hun, _⟩ := mem_ready.1 hr
      obtain ⟨huj, oj, hoj, hdone⟩ := mem_ready.1 hj
      have hfar : ∀ x ∈ oj.after, Region.binds .any x = true → x.on ≠ i := by
        intro x hx hb hxi
        have := hdone x hx hb
        rw [hxi] at this
        rcases Nat.lt_or_ge i listed.size with hl | hl
        · simp [hl] at hun this; rw [hun] at this; cases this
        · simp [Array.getElem?_eq_none hl] at hun
      have h2 := pure_put hoj (hfree j oj hoj e huj hfar) (fun cs b => hsel i o cs b hi) (fun cs b => hsel j oj cs b hoj) (fun c a' w' => hQ c a' _ _ w') hy (H.2 j (ready_mono hj e))
      have step : ∀ a' w', YP P ops o v a' → wpC P ops w0 S Q f ((listed.setIfInBounds i true).setIfInBounds j true) (a'.put o.dst v) w' → wpC P ops w0 S Q (f + 1) (listed.setIfInBounds j true) a' w' := fun a' w' hy' hall => by
        refine ih (listed.setIfInBounds j true) a' w' (fun m om hm hmi hum hnm => ?_) (ready_mono hr (Ne.symm e)) hy' ?_
        · have hum' : listed.getD m true = false := by
            by_cases e2 : j = m
            · subst e2; exact huj
            · rw [getD_set_ne true e2] at hum; exact hum
          exact hfree m om hm hmi hum' hnm
        · rw [Array.setIfInBounds_comm _ _ e]; exact hall
      refine wpOp_mono (fun a' w' hb => ?_) h2
      obtain ⟨hy', hb⟩ := hb
      cases hs : S j with
      | true => rw [hs] at hb; exact step a' w' hy' hb
      | false => rw [hs] at hb; exact (show Boxed w0 _ a' w' from ⟨hb.1, fun u hu => step a' u hy' (hb.2 u hu)⟩)
def wpPure (P : Program) (D : Act → Prop) : List Oper → Act → Prop
  | [], a => D a
  | o :: rest, a => o.guard = none ∧ ∃ v, (∀ u, (execOp a.eval o).run P u = .ok (.value v) u) ∧ wpPure P D rest (a.put o.dst v)
theorem wpC.pures (hns : Region.noSelect ops = true) (hQ : ∀ c a d v w, Q (.panic c) (Act.put a d v) w → Q (.panic c) a w) {D : Act → Prop} {g : Nat} (w : World) :
    ∀ (is : List Nat) (listed : Array Bool) (a : Act), is.all (fun i => decide (i < ops.size)) = true → is.all S = true → firstB ops is listed = true →
      (∀ a', D a' → wpC P ops w0 S Q g (setsL is listed) a' w) → wpPure P D (pick ops is) a → wpC P ops w0 S Q (is.length + g) listed a w
  | [], listed, a, _, _, _, hend, h => by rw [List.length_nil, Nat.zero_add]; exact hend a h
  | i :: is, listed, a, hl, hs, hB, hend, h => by
    simp only [List.all_cons, Bool.and_eq_true, decide_eq_true_eq] at hl hs
    obtain ⟨o, ho⟩ : ∃ o, ops[i]? = some o := ⟨_, Array.getElem?_eq_getElem hl.1⟩
    rw [pick_cons ho] at h
    simp only [firstB, Bool.and_eq_true] at hB
    have hri : i ∈ Region.ready .any ops listed := by simpa using hB.1.1
    obtain ⟨hg, v, hy, hD⟩ := h
    rw [List.length_cons, Nat.add_right_comm]
    exact wpC.pure ho hns hQ hs.1 (is.length + g) listed a w (Region.free_spec ho hB.1.2) hri ⟨by simp [Region.wanted, hg], hy⟩
      (wpC.pures hns hQ w is _ _ hl.2 hs.2 hB.2 hend hD)
end
end Go.Proofs.YtnedcclmfokdnaaGreat
namespace Go.Proofs.YtnedcclmfokdnaaGreat
open Go Go.RowKit
def ptrV (k : Nat) : Value := .pointer (some ⟨k, 0, none⟩)
def deco : List (Option Tmp) → List (Option Nat) → Act → Act
  | _ :: ds, none :: ks, a => deco ds ks a
  | d :: ds, some k :: ks, a => deco ds ks (a.put d (ptrV k))
  | [], _, a => a
  | _ :: _, [], a => a
def Apt (x : Option Tmp) (ds : List (Option Tmp)) : Prop := ∀ d ∈ ds, ∀ t, x = some t → d ≠ some t
theorem deco_put : ∀ (ds : List (Option Tmp)) (ks : List (Option Nat)) (a : Act) (x : Option Tmp) (v : Value), Apt x ds → deco ds ks (a.put x v) = (deco ds ks a).put x v
  | [], ks, a, x, v, _ => by cases ks <;> rfl
  | d :: ds, [], a, x, v, _ => rfl
  | d :: ds, none :: ks, a, x, v, h => deco_put ds ks a x v fun d' hd => h d' (by simp [hd])
  | d :: ds, some k :: ks, a, x, v, h => by
    unfold deco
    rw [Act.put_comm a v (ptrV k) (x := x) (y := d) (h d (by simp))]
    exact deco_put ds ks _ x v fun d' hd => h d' (by simp [hd])
theorem deco_set : ∀ (ds : List (Option Tmp)) (ks : List (Option Nat)) (a : Act) (r k : Nat) (d : Option Tmp), ds[r]? = some d → ks[r]? = some none → (∀ d' ∈ ds.drop (r + 1), ∀ t, d = some t → d' ≠ some t) → deco ds (ks.set r (some k)) a = (deco ds ks a).put d (ptrV k)
  | [], ks, a, r, k, d, h, _, _ => by simp at h
  | d0 :: ds, [], a, r, k, d, _, h, _ => by simp at h
  | d0 :: ds, u :: ks, a, 0, k, d, h, h2, h3 => by
    simp only [List.getElem?_cons_zero, Option.some.injEq] at h h2
    subst h h2
    show deco ds ks (a.put d0 (ptrV k)) = (deco ds ks a).put d0 (ptrV k)
    exact deco_put ds ks a d0 _ (by simpa [Apt] using h3)
  | d0 :: ds, none :: ks, a, r + 1, k, d, h, h2, h3 => deco_set ds ks a r k d (by simpa using h) (by simpa using h2) (by simpa using h3)
  | d0 :: ds, some q :: ks, a, r + 1, k, d, h, h2, h3 => deco_set ds ks (a.put d0 (ptrV q)) r k d (by simpa using h) (by simpa using h2) (by simpa using h3)
section
variable {P : Program} {ops : Array Oper} {w0 : World} {Q : Exit → Act → World → Prop} {S : Nat → Bool}
theorem wp_put {o : Oper} {d : Option Tmp} {v : Value} (hs : ∀ cs b, o.op ≠ .select cs b) (h1 : ∀ t, d = some t → t ∉ o.looksAt ops) (h2 : ∀ t, d = some t → o.dst ≠ some t)
    (hQ : ∀ c a w, Q (.panic c) a w → Q (.panic c) (a.put d v) w) {K : Act → World → Prop} {a : Act} {w : World} (h : o.wp P a w K Q) : o.wp P (a.put d v) w (fun a' w' => ∃ a0, a' = a0.put d v ∧ K a0 w') Q := by
  have back : ∀ u, (a.put d v).put o.dst u = (a.put o.dst u).put d v := fun u => Act.put_comm a v u h2
  unfold Oper.wp at *
  rw [execOp_put o hs a d v h1]
  generalize (execOp a.eval o).run P w = r at *
  match r, h with
  | .ok (.value u) w', h => exact ⟨_, back u, h⟩
  | .ok .skip w', h => exact ⟨_, back undef, h⟩
  | .ok (.defer e) w', h =>
    have e1 := Act.put_comm { a with defers := e :: a.defers } v undef h2
    exact ⟨_, by cases d <;> exact e1, h⟩
  | .ok (.enter f args) w', h =>
    refine Calls.mono h fun e w'' he => ?_
    match e, he with
    | .returned u, he => exact ⟨_, back u, he⟩
    | .panicked c, he => exact hQ _ _ _ he
    | .outgrown, he => exact he
  | .ok (.row row args) w', h => exact Rows.mono h fun u w'' he => ⟨_, back u, he⟩
  | .halt (.panic u) w', h => exact hQ _ _ _ h
theorem wp_deco {o : Oper} (hs : ∀ cs b, o.op ≠ .select cs b) (hQ : ∀ c a d v w, Q (.panic c) a w → Q (.panic c) (Act.put a d v) w) :
    ∀ (ds : List (Option Tmp)) (ks : List (Option Nat)) (K : Act → World → Prop) (a : Act) (w : World), (∀ d ∈ ds, ∀ t, d = some t → t ∉ o.looksAt ops ∧ o.dst ≠ some t) → o.wp P a w K Q → o.wp P (deco ds ks a) w (fun a' w' => ∃ a0, a' = deco ds ks a0 ∧ K a0 w') Q
  | [], ks, K, a, w, _, h => by
    have e : ∀ a, deco [] ks a = a := fun a => by cases ks <;> rfl
    rw [e]
    exact Oper.wp_mono (fun a' w' hk => ⟨a', (e a').symm, hk⟩) h
  | d :: ds, [], K, a, w, _, h => Oper.wp_mono (fun a' w' hk => ⟨a', rfl, hk⟩) h
  | d :: ds, none :: ks, K, a, w, hd, h => wp_deco hs hQ ds ks K a w (fun d' h' => hd d' (by simp [h'])) h
  | d :: ds, some k :: ks, K, a, w, hd, h => by
    have h1 := wp_put (v := ptrV k) hs (fun t ht => (hd d (by simp) t ht).1) (fun t ht => (hd d (by simp) t ht).2) (fun c a w => hQ c a d (ptrV k) w) h
    refine Oper.wp_mono (fun a' w' hk => ?_) (wp_deco hs hQ ds ks _ _ w (fun d' h' => hd d' (by simp [h'])) h1)
    obtain ⟨a0, rfl, a1, rfl, hk⟩ := hk
    exact ⟨a1, rfl, hk⟩
def wpChain (P : Program) (ops : Array Oper) (Q : Exit → Act → World → Prop) (E : List (Nat × Nat) → Act → World → Prop) : List Nat → List (Nat × Nat) → Act → World → Prop
  | [], R, a, w => E R a w
  | j :: js, R, a, w => ∃ o, ops[j]? = some o ∧ o.guard = none ∧ o.wp P a w (fun a' w' => Below w.heap.size w w' ∧ ∀ u, Below w'.heap.size w' u → wpChain P ops Q E js (R ++ [(w.heap.size, w'.heap.size)]) a' u) Q
structure Held (B : Nat) (objs : List Obj) (R : List (Nat × Nat)) (ks : List (Option Nat)) (w : World) : Prop where
  obj : ∀ (r k : Nat), ks[r]? = some (some k) → w.heap[k]? = objs[r]? ∧ B ≤ k ∧ k < w.heap.size
  out : ∀ (r k : Nat), ks[r]? = some (some k) → ∀ p ∈ R, k < p.1 ∨ p.2 ≤ k
  inj : ∀ (r r' k : Nat), ks[r]? = some (some k) → ks[r']? = some (some k) → r = r'
def looseB (ops : Array Oper) (A : List Nat) (endB : Array Bool → Bool) : Nat → List Nat → List Nat → Array Bool → Bool
  | 0, js, rem, listed => js.isEmpty && rem.isEmpty && endB listed
  | n + 1, js, rem, listed => !(Region.ready .any ops listed).isEmpty && ((Region.ready .any ops listed).all fun k => js.head? == some k || rem.any fun r => A[r]? == some k) &&
      (match js with | [] => true | j :: js' => !(Region.ready .any ops listed).contains j || looseB ops A endB n js' rem (listed.setIfInBounds j true)) &&
      rem.all fun r => match A[r]? with | none => false | some i => looseB ops A endB n js (rem.filter (· != r)) (listed.setIfInBounds i true)
def Allocs (P : Program) (ops : Array Oper) (A : List Nat) (ds : List (Option Tmp)) (objs : List Obj) : Prop :=
  ∀ (r i : Nat), A[r]? = some i → ∃ o ob, ops[i]? = some o ∧ o.guard = none ∧ ds[r]? = some o.dst ∧ objs[r]? = some ob ∧ ∀ (a : Act) (u : World), (execOp a.eval o).run P u = .ok (.value (ptrV u.heap.size)) (u.alloc ob)
theorem wpC.loose {B m : Nat} {A : List Nat} {ds : List (Option Tmp)} {objs : List Obj} {endB : Array Bool → Bool} {E : List (Nat × Nat) → Act → World → Prop} (hQ : ∀ c a d v w, Q (.panic c) a w → Q (.panic c) (Act.put a d v) w) (hns : Region.noSelect ops = true)
    (hA : Allocs P ops A ds objs) (hSA : ∀ i ∈ A, S i = false) (hdd : ∀ (r : Nat) d, ds[r]? = some d → ∀ d' ∈ ds.drop (r + 1), ∀ t, d = some t → d' ≠ some t)
    (hend : ∀ listed R ks a w, endB listed = true → ks.length = A.length → (∀ (r : Nat), ks[r]? ≠ some none) → Held B objs R ks w → E R a w → wpC P ops w0 S Q m listed (deco ds ks a) w) :
    ∀ (n : Nat) (js rem : List Nat) (R : List (Nat × Nat)) (ks : List (Option Nat)) (listed : Array Bool) (a : Act) (w : World), n = js.length + rem.length → (∀ j ∈ js, S j = false) →
      (∀ j ∈ js, ∀ o, ops[j]? = some o → ∀ d ∈ ds, ∀ t, d = some t → t ∉ o.looksAt ops ∧ o.dst ≠ some t) → rem.Nodup → (∀ r, r ∈ rem ↔ ks[r]? = some none) → ks.length = A.length → Held B objs R ks w → (∀ p ∈ R, p.2 ≤ w.heap.size) → B ≤ w.heap.size → Below w0.heap.size w0 w →
      looseB ops A endB n js rem listed = true → (∀ u, Below w.heap.size w u → wpChain P ops Q E js R a u) → wpC P ops w0 S Q (n + m) listed (deco ds ks a) w := by
  intro n
  induction n with
  | zero =>
    intro js rem R ks listed a w hn _ _ _ hrem hkl hH hR hB hb hl H
    simp only [looseB, Bool.and_eq_true, List.isEmpty_iff] at hl
    obtain ⟨⟨rfl, rfl⟩, hl⟩ := hl
    rw [Nat.zero_add]
    exact hend listed R ks a w hl hkl (fun r h => by have := (hrem r).2 h; cases this) hH (H w (Below.refl _ _))
  | succ n ih =>
    intro js rem R ks listed a w hn hSj hap hnd hrem hkl hH hR hB hb hl H
    unfold looseB at hl
    simp only [Bool.and_eq_true, Bool.not_eq_true', List.all_eq_true, Bool.or_eq_true] at hl
    obtain ⟨⟨⟨b1, b2⟩, b3⟩, b4⟩ := hl
    rw [Nat.add_right_comm]
    refine ⟨fun h1 => (by rw [h1] at b1; cases b1), fun k hk => ?_⟩
    by_cases hj : js.head? = some k
    · -- the next step of the chain
      cases js with
      | nil => cases hj
      | cons j js =>
        obtain rfl : j = k := by simpa using hj
        have hSk := hSj j (by simp)
        have hlo : looseB ops A endB n js rem (listed.setIfInBounds j true) = true := by
          have b3' : (!(Region.ready .any ops listed).contains j || looseB ops A endB n js rem (listed.setIfInBounds j true)) = true := b3
          rw [List.contains_iff_mem.2 hk] at b3'
          simpa using b3'
        obtain ⟨o, ho, hg, -⟩ := H w (Below.refl _ _)
        have hw := H w (Below.refl _ _)
        obtain ⟨o', ho', hg', hw⟩ := hw
        rw [ho] at ho'; cases ho'
        have h3 := wp_deco (ops := ops) (fun cs b => Region.noSelect_spec hns j o cs b ho) hQ ds ks _ a w (fun d hd t ht => hap j (by simp) o ho d hd t ht) hw
        rw [hSk]
        unfold wpOp
        simp only [ho, Region.wanted, hg, if_true]
        refine .inl (Oper.wp_mono (fun a' w' hk' => ?_) h3)
        obtain ⟨a0, rfl, hb1, hall⟩ := hk'
        have hb01 : Below w0.heap.size w0 w' := below_then hb (hb1.mono (Nat.le_refl _))
        refine (show Boxed w0 _ _ w' from ⟨hb01, fun u hu => ?_⟩)
        have hs1 := hb1.size
        have hs2 := hu.size
        refine ih js rem (R ++ [(w.heap.size, w'.heap.size)]) ks _ a0 u (by simp at hn; omega) (fun j hj => hSj j (by simp [hj])) (fun j hj => hap j (by simp [hj])) hnd hrem hkl ?_ ?_ (by omega) (below_then hb01 hu) hlo (fun u' hu' => hall u' (below_then hu hu'))
        · refine ⟨fun r k hk => ?_, fun r k hk p hp => ?_, hH.inj⟩
          · obtain ⟨h1, h2, h3⟩ := hH.obj r k hk
            exact ⟨((hu.block k (by omega)).trans (hb1.block k h3)).trans h1, h2, by omega⟩
          · rcases List.mem_append.1 hp with hp | hp
            · exact hH.out r k hk p hp
            · rw [List.mem_singleton.1 hp]; exact .inl (hH.obj r k hk).2.2
        · intro p hp
          rcases List.mem_append.1 hp with hp | hp
          · have := hR p hp; omega
          · rw [List.mem_singleton.1 hp]; exact hs2
    · -- an alloc
      have h5 := (b2 k hk).resolve_left (by simpa using hj)
      obtain ⟨r, hr, hrk⟩ := List.any_eq_true.1 h5
      have hAr : A[r]? = some k := by simpa using hrk
      have h6 := b4 r hr
      rw [hAr] at h6
      dsimp only at h6
      obtain ⟨o, ob, ho, hg, hds, hob, hrun⟩ := hA r k hAr
      have hkr := (hrem r).1 hr
      have hrl : r < ks.length := (List.getElem?_eq_some_iff.1 hkr).1
      rw [hSA k (List.mem_of_getElem? hAr)]
      unfold wpOp
      simp only [ho, Region.wanted, hg, if_true]
      refine .inl ?_
      unfold Oper.wp
      rw [hrun]
      show Boxed w0 _ _ _
      rw [← deco_set ds ks a r w.heap.size o.dst hds hkr (fun d' hd' t ht => hdd r o.dst hds d' hd' t ht)]
      have hba := below_alloc w ob
      refine ⟨below_then hb hba, fun u hu => ?_⟩
      have hs2 := hu.size
      simp only [World.size_alloc] at hs2
      refine ih js (rem.filter (· != r)) R (ks.set r (some w.heap.size)) _ a u ?_ hSj hap (hnd.sublist List.filter_sublist) (fun r' => ?_) (by simpa using hkl) ?_ (fun p hp => by have := hR p hp; omega) (by omega) (below_then (below_then hb hba) hu) h6 (fun u' hu' => H u' (below_then hba (below_then hu hu')))
      · have : (rem.filter (· != r)).length + 1 = rem.length := by
          have he : rem.erase r = rem.filter (· != r) := List.Nodup.erase_eq_filter hnd r
          rw [← he, List.length_erase_of_mem hr]
          have := List.length_pos_of_mem hr
          omega
        omega
      · rw [List.mem_filter, hrem r', List.getElem?_set]
        by_cases e : r = r'
        · subst e; simp [hrl]
        · simp [e, Ne.symm e]
      · have hget : ∀ (r' k' : Nat), (ks.set r (some w.heap.size))[r']? = some (some k') → (r' = r ∧ k' = w.heap.size) ∨ (r' ≠ r ∧ ks[r']? = some (some k')) := fun r' k' h => by
          rw [List.getElem?_set] at h
          by_cases e : r = r'
          · subst e; simp [hrl] at h; exact .inl ⟨rfl, h.symm⟩
          · simp [e] at h; exact .inr ⟨Ne.symm e, h⟩
        refine ⟨fun r' k' h => ?_, fun r' k' h p hp => ?_, fun r' r'' k' h h2 => ?_⟩
        · rcases hget r' k' h with ⟨rfl, rfl⟩ | ⟨_, h'⟩
          · exact ⟨((hu.block w.heap.size (by simp)).trans (heap_alloc_new w ob)).trans hob.symm, hB, by omega⟩
          · obtain ⟨h1, h2, h3⟩ := hH.obj r' k' h'
            exact ⟨((hu.block k' (by simp; omega)).trans (hba.block k' h3)).trans h1, h2, by omega⟩
        · rcases hget r' k' h with ⟨rfl, rfl⟩ | ⟨_, h'⟩
          · exact .inr (hR p hp)
          · exact hH.out r' k' h' p hp
        · rcases hget r' k' h with ⟨rfl, rfl⟩ | ⟨_, h'⟩ <;> rcases hget r'' _ h2 with ⟨rfl, e2⟩ | ⟨_, h2'⟩
          · rfl
          · have := (hH.obj r'' _ h2').2.2; omega
          · have := (hH.obj r' _ h').2.2; omega
          · exact hH.inj r' r'' k' h' h2'
end
end Go.Proofs.YtnedcclmfokdnaaGreat
namespace Go.Proofs.YtnedcclmfokdnaaGreat
open Go Go.RowKit
section
variable {P : Program} {ops : Array Oper} {w0 : World} {Q : Exit → Act → World → Prop} {S : Nat → Bool}
theorem execOp_deco {o : Oper} (hs : ∀ cs b, o.op ≠ .select cs b) : ∀ (ds : List (Option Tmp)) (ks : List (Option Nat)) (a : Act), (∀ d ∈ ds, ∀ t, d = some t → t ∉ o.looksAt ops) → execOp (deco ds ks a).eval o = execOp a.eval o
  | [], ks, a, _ => by cases ks <;> rfl
  | d :: ds, [], a, _ => rfl
  | d :: ds, none :: ks, a, h => execOp_deco hs ds ks a fun d' h' => h d' (by simp [h'])
  | d :: ds, some k :: ks, a, h => by
    show execOp (deco ds ks (a.put d (ptrV k))).eval o = _
    rw [execOp_deco hs ds ks _ fun d' h' => h d' (by simp [h'])]
    exact execOp_put o hs a d (ptrV k) (h d (by simp))
theorem wpPure_deco {D : Act → Prop} {ds : List (Option Tmp)} {ks : List (Option Nat)} : ∀ (is : List Oper) (a : Act), (∀ o ∈ is, (∀ cs b, o.op ≠ .select cs b) ∧ ∀ d ∈ ds, ∀ t, d = some t → t ∉ o.looksAt ops ∧ o.dst ≠ some t) → wpPure P D is a → wpPure P (fun a' => ∃ a0, a' = deco ds ks a0 ∧ D a0) is (deco ds ks a)
  | [], a, _, h => ⟨a, rfl, h⟩
  | o :: is, a, ho, h => by
    obtain ⟨hg, v, hv, h2⟩ := h
    obtain ⟨h3, h4⟩ := ho o (by simp)
    refine ⟨hg, v, fun u => ?_, ?_⟩
    · rw [execOp_deco (ops := ops) h3 ds ks a fun d hd t ht => (h4 d hd t ht).1]; exact hv u
    · rw [← deco_put ds ks a o.dst v fun d hd t ht e => (h4 d hd t e).2 ht]
      exact wpPure_deco is _ (fun o' h' => ho o' (by simp [h'])) h2
theorem wpPure_all {D : World → Act → Prop} {p : World → Prop} {u0 : World} (h0 : p u0) : ∀ (is : List Oper) (a : Act), (∀ u, p u → wpPure P (D u) is a) → wpPure P (fun a => ∀ u, p u → D u a) is a
  | [], a, h => h
  | o :: is, a, h => by
    obtain ⟨hg, v, hv, h2⟩ := h u0 h0
    refine ⟨hg, v, hv, wpPure_all h0 is _ fun u hu => ?_⟩
    obtain ⟨_, v', hv', h2'⟩ := h u hu
    have e := (hv u0).symm.trans (hv' u0)
    simp only [Result.ok.injEq, Next.value.injEq, and_true] at e
    rw [e]; exact h2'
theorem wpPure_step {D : Act → Prop} {rest : List Oper} {a : Act} {o : Oper} (v : Value) (hg : o.guard = none) (hv : ∀ u, (execOp a.eval o).run P u = .ok (.value v) u) (h : wpPure P D rest (a.put o.dst v)) : wpPure P D (o :: rest) a := ⟨hg, v, hv, h⟩
theorem mem_pick {is : List Nat} {o : Oper} (h : o ∈ pick ops is) : ∃ i ∈ is, ops[i]? = some o := by
  unfold pick at h
  obtain ⟨i, hi, e⟩ := List.mem_filterMap.1 h
  exact ⟨i, hi, e⟩
end
end Go.Proofs.YtnedcclmfokdnaaGreat
namespace Go.Proofs.YtnedcclmfokdnaaGreat
open Go Go.RowKit
inductive Tr where
  | done
  | one (j : Nat) (t : Tr)
  | alt (s t : Tr)
def Tr.heads : Tr → List (Nat × Tr)
  | .done => []
  | .one j t => [(j, t)]
  | .alt s t => s.heads ++ t.heads
def Tr.len : Tr → Nat
  | .done => 0
  | .one _ t => t.len + 1
  | .alt s _ => s.len
def Tr.ops : Tr → List Nat
  | .done => []
  | .one j t => j :: t.ops
  | .alt s t => s.ops ++ t.ops
theorem Tr.heads_ops : ∀ {T : Tr} {j : Nat} {t : Tr}, (j, t) ∈ T.heads → j ∈ T.ops ∧ ∀ i ∈ t.ops, i ∈ T.ops
  | .done, j, t, h => by simp [Tr.heads] at h
  | .one j' t', j, t, h => by
    simp only [Tr.heads, List.mem_singleton, Prod.mk.injEq] at h
    obtain ⟨rfl, rfl⟩ := h
    exact ⟨by simp [Tr.ops], fun i hi => by simp [Tr.ops, hi]⟩
  | .alt s1 s2, j, t, h => by
    simp only [Tr.heads, List.mem_append] at h
    rcases h with h | h
    · obtain ⟨h1, h2⟩ := Tr.heads_ops h
      exact ⟨by simp [Tr.ops, h1], fun i hi => by simp [Tr.ops, h2 i hi]⟩
    · obtain ⟨h1, h2⟩ := Tr.heads_ops h
      exact ⟨by simp [Tr.ops, h1], fun i hi => by simp [Tr.ops, h2 i hi]⟩
def looseT (ops : Array Oper) (A : List Nat) (endB : List Nat → Array Bool → Bool) : Nat → Tr → List Nat → Array Bool → Bool
  | 0, T, rem, listed => T.len == 0 && endB rem listed
  | n + 1, T, rem, listed => if T.len == 0 then endB rem listed else !(Region.ready .any ops listed).isEmpty && ((Region.ready .any ops listed).all fun k => T.heads.any (fun h => h.1 == k) || rem.any fun r => A[r]? == some k) &&
      (T.heads.all fun h => h.2.len + 1 == T.len && (!(Region.ready .any ops listed).contains h.1 || looseT ops A endB n h.2 rem (listed.setIfInBounds h.1 true))) &&
      rem.all fun r => match A[r]? with | none => false | some i => looseT ops A endB n T (rem.filter (· != r)) (listed.setIfInBounds i true)
section
variable {P : Program} {ops : Array Oper} {w0 : World} {Q : Exit → Act → World → Prop} {S : Nat → Bool}
def wpTr (P : Program) (ops : Array Oper) (Q : Exit → Act → World → Prop) (E : List (Nat × Nat) → Act → World → Prop) : Tr → List (Nat × Nat) → Act → World → Prop
  | .done, R, a, w => E R a w
  | .one j t, R, a, w => ∃ o, ops[j]? = some o ∧ o.guard = none ∧ o.wp P a w (fun a' w' => Below w.heap.size w w' ∧ ∀ u, Below w'.heap.size w' u → wpTr P ops Q E t (R ++ [(w.heap.size, w'.heap.size)]) a' u) Q
  | .alt s t, R, a, w => wpTr P ops Q E s R a w ∧ wpTr P ops Q E t R a w
theorem wpTr_end {E : List (Nat × Nat) → Act → World → Prop} : ∀ {T : Tr} {R : List (Nat × Nat)} {a : Act} {w : World}, T.len = 0 → wpTr P ops Q E T R a w → E R a w
  | .done, R, a, w, _, h => h
  | .one j t, R, a, w, h0, _ => by simp [Tr.len] at h0
  | .alt s t, R, a, w, h0, h => wpTr_end (T := s) h0 h.1
theorem wpTr_head {E : List (Nat × Nat) → Act → World → Prop} {R : List (Nat × Nat)} {a : Act} {w : World} {j : Nat} {t : Tr} : ∀ {T : Tr}, (j, t) ∈ T.heads → wpTr P ops Q E T R a w → wpTr P ops Q E (.one j t) R a w
  | .done, h, _ => by simp [Tr.heads] at h
  | .one j' t', h, H => by
    simp only [Tr.heads, List.mem_singleton, Prod.mk.injEq] at h
    obtain ⟨rfl, rfl⟩ := h
    exact H
  | .alt s1 s2, h, H => by
    simp only [Tr.heads, List.mem_append] at h
    rcases h with h | h
    · exact wpTr_head h H.1
    · exact wpTr_head h H.2
theorem wpTr_step {j : Nat} {t : Tr} {R : List (Nat × Nat)} {E : List (Nat × Nat) → Act → World → Prop} {a : Act} {w : World} {o : Oper} (ho : ops[j]? = some o) (hg : o.guard = none)
    (h : ∀ K : Act → World → Prop, (∀ a' w', Below w.heap.size w w' → (∀ u, Below w'.heap.size w' u → wpTr P ops Q E t (R ++ [(w.heap.size, w'.heap.size)]) a' u) → K a' w') → o.wp P a w K Q) : wpTr P ops Q E (.one j t) R a w :=
  ⟨o, ho, hg, h _ fun _ _ h1 h2 => ⟨h1, h2⟩⟩
theorem wpC.looseTr {B m : Nat} {A : List Nat} {ds : List (Option Tmp)} {objs : List Obj} {endB : List Nat → Array Bool → Bool} {E : List (Nat × Nat) → Act → World → Prop} (hQ : ∀ c a d v w, Q (.panic c) a w → Q (.panic c) (Act.put a d v) w) (hns : Region.noSelect ops = true)
    (hA : Allocs P ops A ds objs) (hSA : ∀ i ∈ A, S i = false) (hdd : ∀ (r : Nat) d, ds[r]? = some d → ∀ d' ∈ ds.drop (r + 1), ∀ t, d = some t → d' ≠ some t)
    (hend : ∀ rem listed R ks a w, endB rem listed = true → rem.Nodup → (∀ r, r ∈ rem ↔ ks[r]? = some none) → ks.length = A.length → Held B objs R ks w → (∀ p ∈ R, p.2 ≤ w.heap.size) → B ≤ w.heap.size → Below w0.heap.size w0 w → (∀ u, Below w.heap.size w u → E R a u) → wpC P ops w0 S Q (rem.length + m) listed (deco ds ks a) w) :
    ∀ (n : Nat) (T : Tr) (rem : List Nat) (R : List (Nat × Nat)) (ks : List (Option Nat)) (listed : Array Bool) (a : Act) (w : World), n = T.len + rem.length → (∀ j ∈ T.ops, S j = false) →
      (∀ j ∈ T.ops, ∀ o, ops[j]? = some o → ∀ d ∈ ds, ∀ t, d = some t → t ∉ o.looksAt ops ∧ o.dst ≠ some t) → rem.Nodup → (∀ r, r ∈ rem ↔ ks[r]? = some none) → ks.length = A.length → Held B objs R ks w → (∀ p ∈ R, p.2 ≤ w.heap.size) → B ≤ w.heap.size → Below w0.heap.size w0 w →
      looseT ops A endB n T rem listed = true → (∀ u, Below w.heap.size w u → wpTr P ops Q E T R a u) → wpC P ops w0 S Q (n + m) listed (deco ds ks a) w := by
  intro n
  induction n with
  | zero =>
    intro T rem R ks listed a w hn hSj hap hnd hrem hkl hH hR hB hb hl H
    simp only [looseT, Bool.and_eq_true, beq_iff_eq] at hl
    have := hend rem listed R ks a w hl.2 hnd hrem hkl hH hR hB hb (fun u hu => wpTr_end hl.1 (H u hu))
    have e : rem.length = 0 := by omega
    rwa [e] at this
  | succ n ih =>
    intro T rem R ks listed a w hn hSj hap hnd hrem hkl hH hR hB hb hl H
    by_cases hT : T.len = 0
    · unfold looseT at hl
      rw [if_pos (by simpa using hT)] at hl
      have := hend rem listed R ks a w hl hnd hrem hkl hH hR hB hb (fun u hu => wpTr_end hT (H u hu))
      have e : rem.length = n + 1 := by omega
      rwa [e] at this
    unfold looseT at hl
    rw [if_neg (by simpa using hT)] at hl
    simp only [Bool.and_eq_true, Bool.not_eq_true', List.all_eq_true, Bool.or_eq_true, beq_iff_eq] at hl
    obtain ⟨⟨⟨b1, b2⟩, b3⟩, b4⟩ := hl
    rw [Nat.add_right_comm]
    refine ⟨fun h1 => (by rw [h1] at b1; cases b1), fun k hk => ?_⟩
    by_cases hj : T.heads.any (fun h => h.1 == k) = true
    · obtain ⟨⟨k', t⟩, hmem, hkk⟩ := List.any_eq_true.1 hj
      obtain rfl : k' = k := by simpa using hkk
      obtain ⟨hko, hto⟩ := Tr.heads_ops hmem
      have hSk := hSj k' hko
      obtain ⟨hlen, b3⟩ := b3 _ hmem
      have hlo : looseT ops A endB n t rem (listed.setIfInBounds k' true) = true := by
        rcases b3 with b3 | b3
        · rw [List.contains_iff_mem.2 hk] at b3; cases b3
        · exact b3
      obtain ⟨o, ho, hg, hw⟩ := wpTr_head hmem (H w (Below.refl _ _))
      have h3 := wp_deco (ops := ops) (fun cs b => Region.noSelect_spec hns k' o cs b ho) hQ ds ks _ a w (fun d hd t ht => hap k' hko o ho d hd t ht) hw
      rw [hSk]
      unfold wpOp
      simp only [ho, Region.wanted, hg, if_true]
      refine .inl (Oper.wp_mono (fun a' w' hk' => ?_) h3)
      obtain ⟨a0, rfl, hb1, hall⟩ := hk'
      have hb01 : Below w0.heap.size w0 w' := below_then hb (hb1.mono (Nat.le_refl _))
      refine (show Boxed w0 _ _ w' from ⟨hb01, fun u hu => ?_⟩)
      have hs1 := hb1.size
      have hs2 := hu.size
      refine ih t rem (R ++ [(w.heap.size, w'.heap.size)]) ks _ a0 u (by simp only at hlen; omega) (fun j hj => hSj j (hto j hj)) (fun j hj => hap j (hto j hj)) hnd hrem hkl ?_ ?_ (by omega) (below_then hb01 hu) hlo (fun u' hu' => hall u' (below_then hu hu'))
      · refine ⟨fun r k hk => ?_, fun r k hk p hp => ?_, hH.inj⟩
        · obtain ⟨h1, h2, h3⟩ := hH.obj r k hk
          exact ⟨((hu.block k (by omega)).trans (hb1.block k h3)).trans h1, h2, by omega⟩
        · rcases List.mem_append.1 hp with hp | hp
          · exact hH.out r k hk p hp
          · rw [List.mem_singleton.1 hp]; exact .inl (hH.obj r k hk).2.2
      · intro p hp
        rcases List.mem_append.1 hp with hp | hp
        · have := hR p hp; omega
        · rw [List.mem_singleton.1 hp]; exact hs2
    · have h5 := (b2 k hk).resolve_left hj
      obtain ⟨r, hr, hrk⟩ := List.any_eq_true.1 h5
      have hAr : A[r]? = some k := by simpa using hrk
      have h6 := b4 r hr
      rw [hAr] at h6
      dsimp only at h6
      obtain ⟨o, ob, ho, hg, hds, hob, hrun⟩ := hA r k hAr
      have hkr := (hrem r).1 hr
      have hrl : r < ks.length := (List.getElem?_eq_some_iff.1 hkr).1
      rw [hSA k (List.mem_of_getElem? hAr)]
      unfold wpOp
      simp only [ho, Region.wanted, hg, if_true]
      refine .inl ?_
      unfold Oper.wp
      rw [hrun]
      show Boxed w0 _ _ _
      rw [← deco_set ds ks a r w.heap.size o.dst hds hkr (fun d' hd' t ht => hdd r o.dst hds d' hd' t ht)]
      have hba := below_alloc w ob
      refine ⟨below_then hb hba, fun u hu => ?_⟩
      have hs2 := hu.size
      simp only [World.size_alloc] at hs2
      refine ih T (rem.filter (· != r)) R (ks.set r (some w.heap.size)) _ a u ?_ hSj hap (hnd.sublist List.filter_sublist) (fun r' => ?_) (by simpa using hkl) ?_ (fun p hp => by have := hR p hp; omega) (by omega) (below_then (below_then hb hba) hu) h6 (fun u' hu' => H u' (below_then hba (below_then hu hu')))
      · have : (rem.filter (· != r)).length + 1 = rem.length := by
          have he : rem.erase r = rem.filter (· != r) := List.Nodup.erase_eq_filter hnd r
          rw [← he, List.length_erase_of_mem hr]
          have := List.length_pos_of_mem hr
          omega
        omega
      · rw [List.mem_filter, hrem r', List.getElem?_set]
        by_cases e : r = r'
        · subst e; simp [hrl]
        · simp [e, Ne.symm e]
      · have hget : ∀ (r' k' : Nat), (ks.set r (some w.heap.size))[r']? = some (some k') → (r' = r ∧ k' = w.heap.size) ∨ (r' ≠ r ∧ ks[r']? = some (some k')) := fun r' k' h => by
          rw [List.getElem?_set] at h
          by_cases e : r = r'
          · subst e; simp [hrl] at h; exact .inl ⟨rfl, h.symm⟩
          · simp [e] at h; exact .inr ⟨Ne.symm e, h⟩
        refine ⟨fun r' k' h => ?_, fun r' k' h p hp => ?_, fun r' r'' k' h h2 => ?_⟩
        · rcases hget r' k' h with ⟨rfl, rfl⟩ | ⟨_, h'⟩
          · exact ⟨((hu.block w.heap.size (by simp)).trans (heap_alloc_new w ob)).trans hob.symm, hB, by omega⟩
          · obtain ⟨h1, h2, h3⟩ := hH.obj r' k' h'
            exact ⟨((hu.block k' (by simp; omega)).trans (hba.block k' h3)).trans h1, h2, by omega⟩
        · rcases hget r' k' h with ⟨rfl, rfl⟩ | ⟨_, h'⟩
          · exact .inr (hR p hp)
          · exact hH.out r' k' h' p hp
        · rcases hget r' k' h with ⟨rfl, rfl⟩ | ⟨_, h'⟩ <;> rcases hget r'' _ h2 with ⟨rfl, e2⟩ | ⟨_, h2'⟩
          · rfl
          · have := (hH.obj r'' _ h2').2.2; omega
          · have := (hH.obj r' _ h').2.2; omega
          · exact hH.inj r' r'' k' h' h2'
end
end Go.Proofs.YtnedcclmfokdnaaGreat
namespace Go.Proofs.YtnedcclmfokdnaaGreat
open Go Go.RowKit Go.Shelf
section
variable {P : Program} {ops : Array Oper} {w0 : World} {S : Nat → Bool} {Q : Exit → Act → World → Prop}
theorem wpC.congr {S' : Nat → Bool} : ∀ (f : Nat) (listed : Array Bool) (a : Act) (w : World), (∀ j, listed.getD j true = false → S j = S' j) → wpC P ops w0 S Q f listed a w → wpC P ops w0 S' Q f listed a w
  | 0, _, _, _, _, h => h
  | f + 1, listed, a, w, hS, h => by
    refine ⟨h.1, fun j hj => ?_⟩
    have hun := (mem_ready.1 hj).1
    have step : ∀ a' w', wpC P ops w0 S Q f (listed.setIfInBounds j true) a' w' → wpC P ops w0 S' Q f (listed.setIfInBounds j true) a' w' := fun a' w' h' =>
      wpC.congr f _ a' w' (fun k hk => hS k (by
        by_cases e : j = k
        · subst e; exact hun
        · rw [getD_set_ne true e] at hk; exact hk)) h'
    refine wpOp_mono (fun a' w' hb => ?_) (h.2 j hj)
    rw [← hS j hun]
    cases hs : S j with
    | true => rw [hs] at hb; exact step a' w' hb
    | false => rw [hs] at hb; exact (show Boxed w0 _ a' w' from ⟨hb.1, fun u hu => step a' u (hb.2 u hu)⟩)
theorem closedL_sets : ∀ (ms : List Nat) (listed : Array Bool), closedL ops listed → firstB ops ms listed = true → closedL ops (setsL ms listed)
  | [], _, h, _ => h
  | m :: ms, listed, h, hB => by
    simp only [firstB, Bool.and_eq_true] at hB
    exact closedL_sets ms _ (h.set (by simpa using hB.1.1)) hB.2
theorem setsL_keep : ∀ (ms : List Nat) (listed : Array Bool) (j : Nat), (setsL ms listed).getD j true = false → listed.getD j true = false
  | [], _, _, h => h
  | m :: ms, listed, j, h => by
    have := setsL_keep ms _ j h
    by_cases e : m = j
    · subst e
      by_cases hl : m < listed.size
      · simp [hl] at this
      · simp at this
    · rw [getD_set_ne true e] at this; exact this
theorem setsL_out : ∀ (ms : List Nat) (listed : Array Bool) (j : Nat), (setsL ms listed).getD j true = false → j ∉ ms
  | [], _, _, _ => by simp
  | m :: ms, listed, j, h => by
    intro hj
    rcases List.mem_cons.1 hj with rfl | hj
    · have := setsL_keep ms _ j h
      by_cases hl : j < listed.size
      · simp [hl] at this
      · simp at this
    · exact setsL_out ms _ j h hj
end
end Go.Proofs.YtnedcclmfokdnaaGreat
namespace Go.Proofs.YtnedcclmfokdnaaGreat
open Go Go.RowKit
section
variable {P : Program} {ops : Array Oper} {w0 : World} {Q : Exit → Act → World → Prop} {S : Nat → Bool}
def looseTM (ops : Array Oper) (ms fs : List Nat) (T : Tr) (A is cs : List Nat) : Bool :=
  Region.noSelect ops && ((fs ++ T.ops ++ A ++ is ++ cs).all fun i => decide (i < ops.size)) && decide (ms.length + (fs.length + (T.len + A.length + (is.length + cs.length))) = ops.size) &&
    ((fs ++ T.ops ++ A).all fun i => !(is ++ cs).contains i) && (fs.all fun i => (is ++ cs).all fun j => waitsT ops i ops.size j) && firstB ops fs (setsL ms (Array.replicate ops.size false)) &&
    (A.all fun i => (T.ops ++ is).all fun j => match ops[i]?, ops[j]? with | some x, some y => x.apart ops y | _, _ => false) && (A.all fun i => A.all fun j => i == j || match ops[i]?, ops[j]? with | some x, some y => x.apart ops y | _, _ => false) && A.Nodup &&
    looseT ops A (fun rem listed => firstB ops is listed && looseB ops A (seqI ops cs) rem.length [] rem (setsL is listed)) (T.len + A.length) T (List.range A.length) (setsL fs (setsL ms (Array.replicate ops.size false))) &&
    (ms.all fun i => decide (i < ops.size)) && firstB ops ms (Array.replicate ops.size false)
theorem wp_region_looseM {id : Nat} {a : Act} {w : World} {l : List Oper} (ms fs : List Nat) (T : Tr) (A is cs : List Nat) (ds : List (Option Tmp)) (objs : List Obj) (hm : P.follows .mixedOrders = true) (hB : looseTM l.toArray ms fs T A is cs = true)
    (hQ : ∀ c a d v w, Q (.panic c) (Act.put a d v) w → Q (.panic c) a w) (hQ2 : ∀ c a d v w, Q (.panic c) a w → Q (.panic c) (Act.put a d v) w) (hlen : ds.length = A.length) (hA : Allocs P l.toArray A ds objs)
    (h : wpPure P (fun a => ∀ u, Below w.heap.size w u → wpRel P l.toArray u (fun a' => ∀ u', Below u.heap.size u u' → wpTr P l.toArray Q (fun R a2 w2 => wpPure P (fun a3 => ∀ ks : List (Option Nat), ks.length = A.length → (∀ (r : Nat), ks[r]? ≠ some none) → Held w.heap.size objs R ks w2 →
      wpList P l.toArray Q (pick l.toArray cs) (deco ds ks a3) w2) (pick l.toArray is) a2) T [] a' u') (pick l.toArray fs) a) (pick l.toArray ms) a) : (Code.region id l.toArray true).wp P Q a w := by
  simp only [looseTM, Bool.and_eq_true, decide_eq_true_eq] at hB
  obtain ⟨⟨⟨⟨⟨⟨⟨⟨⟨⟨⟨hns, h1⟩, h4⟩, h5⟩, h7⟩, h8⟩, h9⟩, h10⟩, h11⟩, h12⟩, m1⟩, m2⟩ := hB
  simp only [List.all_append, Bool.and_eq_true] at h1 h5 h9
  obtain ⟨⟨⟨⟨l1, l2⟩, l3⟩, l4⟩, l5⟩ := h1
  obtain ⟨⟨n1, n2⟩, n3⟩ := h5
  have hc : cs.all (fun i => (is ++ cs).contains i) = true := by simp; exact fun x hx => .inr hx
  have hc2 : is.all (fun i => (is ++ cs).contains i) = true := by simp; exact fun x hx => .inl hx
  have hSA : ∀ i ∈ A, (is ++ cs).contains i = false := fun i hi => by have := List.all_eq_true.1 n3 i hi; simpa using this
  have dsA : ∀ (r : Nat) d, ds[r]? = some d → ∃ i o, A[r]? = some i ∧ l.toArray[i]? = some o ∧ o.dst = d := fun r d hd => by
    have hr : r < A.length := by rw [← hlen]; exact (List.getElem?_eq_some_iff.1 hd).1
    obtain ⟨o, ob, ho, _, hds, _⟩ := hA r A[r] (List.getElem?_eq_getElem hr)
    rw [hd] at hds
    exact ⟨A[r], o, List.getElem?_eq_getElem hr, ho, (Option.some.inj hds).symm⟩
  have hdd : ∀ (r : Nat) d, ds[r]? = some d → ∀ d' ∈ ds.drop (r + 1), ∀ t, d = some t → d' ≠ some t := fun r d hd d' hd' t ht e => by
    obtain ⟨q, hq⟩ := List.getElem?_of_mem hd'
    rw [List.getElem?_drop] at hq
    obtain ⟨i, o, hi, ho, rfl⟩ := dsA r d hd
    obtain ⟨i', o', hi', ho', rfl⟩ := dsA _ d' hq
    have := List.all_eq_true.1 (List.all_eq_true.1 h10 i (List.mem_of_getElem? hi)) i' (List.mem_of_getElem? hi')
    rw [ho, ho'] at this
    simp only [Bool.or_eq_true, beq_iff_eq] at this
    rcases this with e2 | e2
    · have hnd : A.Nodup := by simpa using h11
      have h1l := (List.getElem?_eq_some_iff.1 hi).1
      have h2l := (List.getElem?_eq_some_iff.1 hi').1
      have := (List.getElem_inj (h₀ := h1l) (h₁ := h2l) hnd).1 (by rw [(List.getElem?_eq_some_iff.1 hi).2, (List.getElem?_eq_some_iff.1 hi').2, e2])
      omega
    · exact (Oper.apart_spec e2).2.1 t ht e
  have hapA : ∀ (j : Nat), (∀ i ∈ A, (match l.toArray[i]?, l.toArray[j]? with | some x, some y => x.apart l.toArray y | _, _ => false) = true) → ∀ o : Oper, l.toArray[j]? = some o → ∀ d ∈ ds, ∀ t, d = some t → t ∉ o.looksAt l.toArray ∧ o.dst ≠ some t := fun j hj o ho d hd t ht => by
    obtain ⟨r, hr⟩ := List.getElem?_of_mem hd
    obtain ⟨i, o', hi, ho', rfl⟩ := dsA r d hr
    have := hj i (List.mem_of_getElem? hi)
    rw [ho', ho] at this
    have ap := Oper.apart_spec this
    exact ⟨ap.1 t ht, ap.2.1 t ht⟩
  have H := fun (a : Act) (h : ∀ u, Below w.heap.size w u → wpRel P l.toArray u (fun a' => ∀ u', Below u.heap.size u u' → wpTr P l.toArray Q (fun R a2 w2 => wpPure P (fun a3 => ∀ ks : List (Option Nat), ks.length = A.length → (∀ (r : Nat), ks[r]? ≠ some none) → Held w.heap.size objs R ks w2 →
      wpList P l.toArray Q (pick l.toArray cs) (deco ds ks a3) w2) (pick l.toArray is) a2) T [] a' u') (pick l.toArray fs) a) => wpC.group (P := P) (Q := Q) (ops := l.toArray) (w0 := w.drew) (S := fun i => (is ++ cs).contains i) (g := T.len + A.length + (is.length + cs.length)) hns hQ w.drew (Below.refl _ _) fs _ a (closedL_sets ms _ (closedL_none _) m2) l1 n1
    (fun i hi j _ hSj => List.all_eq_true.1 (List.all_eq_true.1 h7 i hi) j (by simpa using hSj)) h8
    (fun hcl a' hD u hu => by
      have hL := wpC.looseTr (P := P) (ops := l.toArray) (w0 := w.drew) (Q := Q) (S := fun i => (is ++ cs).contains i) (B := w.heap.size) (m := is.length + cs.length) (A := A) (ds := ds) (objs := objs) (endB := fun rem listed => firstB l.toArray is listed && looseB l.toArray A (seqI l.toArray cs) rem.length [] rem (setsL is listed)) hQ2 hns hA hSA hdd
        (E := fun R a2 w2 => wpPure P (fun a3 => ∀ ks : List (Option Nat), ks.length = A.length → (∀ (r : Nat), ks[r]? ≠ some none) → Held w.heap.size objs R ks w2 → wpList P l.toArray Q (pick l.toArray cs) (deco ds ks a3) w2) (pick l.toArray is) a2)
        (fun rem listed R ks a2 w2 hs hnd hrem hkl hH hR hBw hb hE => by
          rw [Bool.and_eq_true] at hs
          rw [show rem.length + (is.length + cs.length) = is.length + (rem.length + cs.length) by omega]
          refine wpC.pures hns hQ w2 is listed _ l4 hc2 hs.1 (fun a3 hD3 => ?_) (wpPure_deco (ops := l.toArray) (ds := ds) (ks := ks) _ _ (fun o ho => ?_) (wpPure_all (p := fun u => Below w2.heap.size w2 u) (Below.refl _ _) _ _ hE))
          · obtain ⟨a4, rfl, hD4⟩ := hD3
            exact wpC.loose (P := P) (ops := l.toArray) (w0 := w.drew) (Q := Q) (S := fun i => (is ++ cs).contains i) (B := w.heap.size) (m := cs.length) (A := A) (ds := ds) (objs := objs) (endB := seqI l.toArray cs)
              (E := fun R a2 w2 => ∀ ks : List (Option Nat), ks.length = A.length → (∀ (r : Nat), ks[r]? ≠ some none) → Held w.heap.size objs R ks w2 → wpList P l.toArray Q (pick l.toArray cs) (deco ds ks a2) w2) hQ2 hns hA hSA hdd
              (fun listed R ks a5 w5 hs5 hkl5 hall5 hH5 hE5 => wpC.close cs _ _ w5 l5 hc hs5 (hE5 ks hkl5 hall5 hH5))
              rem.length [] rem R ks _ a4 w2 (by simp) (by simp) (by simp) hnd hrem hkl hH hR hBw hb hs.2 (fun u hu => hD4 u hu)
          · obtain ⟨i, hi, e⟩ := mem_pick ho
            exact ⟨fun cs b => Region.noSelect_spec hns i o cs b e, hapA i (fun j hj => by have := List.all_eq_true.1 h9 j hj; rw [Bool.and_eq_true] at this; exact List.all_eq_true.1 this.2 i hi) o e⟩)
        (T.len + A.length) T (List.range A.length) [] (List.replicate A.length none) _ a' u (by simp) (fun j hj => by have := List.all_eq_true.1 n2 j hj; simpa using this)
        (fun j hj o ho => hapA j (fun i hi => by have := List.all_eq_true.1 h9 i hi; rw [Bool.and_eq_true] at this; exact List.all_eq_true.1 this.1 j hj) o ho)
        List.nodup_range (fun r => by rw [List.mem_range, List.getElem?_replicate]; simp) (by simp)
        ⟨fun r k hk => by rw [List.getElem?_replicate] at hk; simp at hk, fun r k hk => by rw [List.getElem?_replicate] at hk; simp at hk, fun r r' k hk => by rw [List.getElem?_replicate] at hk; simp at hk⟩
        (by simp) (by have := hu.size; exact this) hu h12 (fun u' hu' => hD u' (below_then hu hu'))
      have e : deco ds (List.replicate A.length none) a' = a' := by
        have : ∀ (ds : List (Option Tmp)) (n : Nat) (a : Act), deco ds (List.replicate n none) a = a := fun ds => by
          induction ds with
          | nil => intro n a; cases n <;> rfl
          | cons d ds ih => intro n a; cases n with | zero => rfl | succ n => exact ih n a
        exact this _ _ _
      rw [e] at hL
      exact hL) (h w.drew ((Below.refl _ _).drew)) w.drew (Below.refl _ _)
  have H2 := wpC.pures (P := P) (S := fun i => (ms ++ (is ++ cs)).contains i) (w0 := w.drew) (Q := Q) (g := fs.length + (T.len + A.length + (is.length + cs.length))) hns hQ w.drew ms (Array.replicate l.toArray.size false) a m1 (by simp; exact fun x hx => .inl hx) m2
    (fun a' hD => wpC.congr _ _ a' _ (fun j hj => by
      have := setsL_out ms _ j hj
      simp [this]) (H a' hD)) h
  refine wp_region_any hm ?_
  rw [h4] at H2
  exact wpC.any _ _ _ _ H2
end
end Go.Proofs.YtnedcclmfokdnaaGreat
