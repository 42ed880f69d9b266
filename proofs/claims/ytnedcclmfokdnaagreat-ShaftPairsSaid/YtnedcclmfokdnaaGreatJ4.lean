/- Texts joined: Tail Own Box Pick. -/
import Derived.Test.YtnedcclmfokdnaaGreatJ2
import Derived.StillTail
namespace Go.Proofs.YtnedcclmfokdnaaGreat
open Go.RowKit
section
variable {P : Program} {ops : Array Oper} {C : World → Prop} {Q : Exit → Act → World → Prop}
def Heads (P : Program) (ops : Array Oper) (C : World → Prop) (n : Nat) (L : Array Bool → Act → Prop) : Nat → Array Bool → Act → Prop
  | 0, listed, a => L listed a
  | f + 1, listed, a => (∃ i, i ∈ Region.ready .any ops listed) ∧
      ∀ i, i ∈ Region.ready .any ops listed → i < n ∧ qOp P ops C i (Heads P ops C n L f (listed.setIfInBounds i true)) a
theorem Heads.any {n g : Nat} {L : Array Bool → Act → Prop} (hL : ∀ listed a w, C w → L listed a → wpAny P .any ops Q g listed a w) :
    ∀ (f : Nat) (listed : Array Bool) (a : Act) (w : World), C w → Heads P ops C n L f listed a → wpAny P .any ops Q (f + g) listed a w := by
  intro f
  induction f with
  | zero => intro listed a w hw h; rw [Nat.zero_add]; exact hL _ _ _ hw h
  | succ f ih =>
    intro listed a w hw ⟨⟨i0, h0⟩, h⟩
    rw [Nat.add_right_comm]
    refine ⟨fun he => ?_, fun i hi => wpOp_of_qOp hw (fun a' w' hw' h' => ih _ a' w' hw' h') (h i hi).2⟩
    rw [he] at h0
    cases h0
def Waits (ops : Array Oper) (p n : Nat) : Prop :=
  ∀ listed : Array Bool, HeadInv .any ops n listed → ∀ i, p ≤ i → i < n → listed.getD i true = false → ∀ t, n ≤ t → t ∉ Region.ready .any ops listed
theorem waits_all {n : Nat} (hs : Region.sinkB .any ops n = true) (hc : Region.chainB .any ops n = true) (hn : n < ops.size) : Waits ops 0 n :=
  fun _ inv i _ hin hun t ht => tail_waits hs hc hn inv _ i rfl hin hun t ht
def sinkFrom (ops : Array Oper) (n : Nat) : Bool := (List.range n).all fun i => i == 0 || (List.range (n + 1)).any fun j => decide (i < j) && Region.waitsFor .any ops j i
theorem waits_from {n : Nat} (hs : sinkFrom ops n = true) (hc : Region.chainB .any ops n = true) (hn : n < ops.size) : Waits ops 1 n := by
  intro listed inv i hp hin hun t ht hr
  obtain ⟨_, ot, hot, hall⟩ := mem_ready.1 hr
  have htlt : t < ops.size := (Array.getElem?_eq_some_iff.1 hot).1
  rcases Nat.lt_or_ge n t with hlt | hge
  · have h1 := List.all_eq_true.1 hc t (List.mem_range.2 htlt)
    simp only [Bool.or_eq_true, decide_eq_true_eq] at h1
    obtain ⟨o', ho', e, he, hb, hon⟩ := Region.waitsFor_spec (h1.resolve_left (by omega))
    cases ho'.symm.trans hot
    have := hall e he hb
    rw [hon, getD_both (inv.tail (t - 1) (by omega) (by omega))] at this
    cases this
  · obtain rfl : t = n := by omega
    -- from i on up to n, one waits for the other
    have key : ∀ m i, t - i ≤ m → 1 ≤ i → i < t → listed.getD i true = false → False := by
      intro m
      induction m with
      | zero => intro i h1 _ h3 _; omega
      | succ m ih =>
        intro i h1 h2 h3 h4
        have h5 := List.all_eq_true.1 hs i (List.mem_range.2 h3)
        simp only [Bool.or_eq_true, beq_iff_eq] at h5
        obtain ⟨j, hj, hj2⟩ := List.any_eq_true.1 (h5.resolve_left (by omega))
        simp only [Bool.and_eq_true, decide_eq_true_eq] at hj2
        have hjt : j ≤ t := by have := List.mem_range.1 hj; omega
        obtain ⟨oj, hoj, e, he, hb, hon⟩ := Region.waitsFor_spec hj2.2
        by_cases hjl : listed.getD j false = true
        · have := inv.closed j oj hoj hjl e he hb
          rw [hon, getD_both h4] at this
          cases this
        · by_cases hjt2 : j = t
          · subst hjt2
            cases hoj.symm.trans hot
            have := hall e he hb
            rw [hon, getD_both h4] at this
            cases this
          · exact ih j (by omega) (by omega) (by omega) (getD_in (by rw [inv.size]; omega) (by simpa using hjl))
    exact key _ i (Nat.le_refl _) hp hin hun
theorem Heads.take {p n i : Nat} {o : Oper} {v : Value} {L : Array Bool → Act → Prop} (hns : Region.noSelect ops = true) (hio : ops[i]? = some o)
    (hw : Waits ops p n) (hpi : p ≤ i) (hin : i < n)
    (hend : ∀ listed a, L listed a → ∀ j, j ∈ Region.ready .any ops listed → n ≤ j) (f : Nat) :
    ∀ (listed : Array Bool) (a : Act), HeadInv .any ops n listed →
      (∀ j oj, ops[j]? = some oj → j ≠ i → listed.getD j true = false → (∀ e ∈ oj.after, Region.binds .any e = true → e.on ≠ i) → o.apart ops oj = true) →
      i ∈ Region.ready .any ops listed → YieldsIn P ops C o v a → Heads P ops C n L f (listed.setIfInBounds i true) (a.put o.dst v) → Heads P ops C n L (f + 1) listed a := by
  have hsel := Region.noSelect_spec hns
  induction f with
  | zero =>
    intro listed a inv _ hr hy hL
    refine ⟨⟨i, hr⟩, fun j hj => ?_⟩
    rcases Nat.lt_or_ge j n with hjn | hjn
    · by_cases e : j = i
      · subst e; exact ⟨hin, hy.qOp hio hL⟩
      · have := hend _ _ hL j (ready_mono hj e); omega
    · exact absurd hj (hw listed inv i hpi hin (mem_ready.1 hr).1 j hjn)
  | succ f ih =>
    intro listed a inv hfree hr hy hH
    have hun := (mem_ready.1 hr).1
    refine ⟨⟨i, hr⟩, fun j hj => ?_⟩
    rcases Nat.lt_or_ge j n with hjn | hjn
    · refine ⟨hjn, ?_⟩
      by_cases e : j = i
      · subst e; exact hy.qOp hio hH
      · obtain ⟨huj, oj, hoj, hdone⟩ := mem_ready.1 hj
        have hfar : ∀ x ∈ oj.after, Region.binds .any x = true → x.on ≠ i := by
          intro x hx hb hxi
          have := hdone x hx hb
          rw [hxi, getD_both hun] at this
          cases this
        have hq := qOp_put hoj (hfree j oj hoj e huj hfar) (fun cs b => hsel i o cs b hio) (fun cs b => hsel j oj cs b hoj) hy (hH.2 j (ready_mono hj e)).2
        refine qOp_mono (fun a' ⟨hy', hk⟩ => ih _ a' (inv.set hj hjn) (fun m om hm hmi hum hnm => ?_) (ready_mono hr (Ne.symm e)) hy' ?_) hq
        · have hum' : listed.getD m true = false := by
            by_cases e2 : j = m
            · subst e2; exact huj
            · rw [getD_set_ne true e2] at hum; exact hum
          exact hfree m om hm hmi hum' hnm
        · rw [Array.setIfInBounds_comm _ _ e]; exact hk
    · exact absurd hj (hw listed inv i hpi hin hun j hjn)
theorem Heads.lex {p n g : Nat} {D : Act → Prop} (hns : Region.noSelect ops = true) (hw : Waits ops p n) (l : List Oper) :
    ∀ (k : Nat) (listed : Array Bool) (a : Act), p ≤ k → (∀ j, j < l.length → l[j]? = ops[k + j]?) → k + l.length = n → HeadInv .any ops n listed →
      Region.lexHead .any ops g l.length k listed = true → wpQuiet P ops C D l a → Heads P ops C n (fun li a' => Region.seqB .any ops g n li = true ∧ D a') l.length listed a := by
  induction l with
  | nil =>
    intro k listed a _ _ hk _ hB h
    obtain rfl : k = n := by simpa using hk
    exact ⟨by simpa [Region.lexHead] using hB, h⟩
  | cons o l ih =>
    intro k listed a hpk hat hk inv hB h
    have hok : ops[k]? = some o := by simpa using (hat 0 (by simp)).symm
    simp only [List.length_cons] at hk
    simp only [List.length_cons, Region.lexHead, Bool.and_eq_true] at hB
    have hr : k ∈ Region.ready .any ops listed := by simpa using hB.1.1
    have hq : qOp P ops C k (wpQuiet P ops C D l) a := by unfold qOp; simp only [hok]; exact h
    obtain ⟨v, hy, hD⟩ := yieldsIn_of_qOp hok hq
    refine Heads.take hns hok hw hpk (by omega) (fun li a' hL => seqB_ready hL.1) l.length listed a inv (Region.free_spec hok hB.1.2) hr hy ?_
    refine ih (k + 1) _ _ (by omega) (fun j hj => ?_) (by omega) (inv.set hr (by omega)) hB.2 hD
    have := hat (j + 1) (by simp; omega)
    simpa [Nat.add_assoc, Nat.add_comm 1 j] using this
theorem wp_region_grown_tail {id : Nat} {a : Act} {w : World} {l : List Oper} (n : Nat) (hm : P.follows .mixedOrders = true) (hB : Region.lexTailB .any l.toArray n = true)
    (h : (∀ (g : Gr w) b o, b < w.heap.size → g.val.cell? ⟨b, o, none⟩ = w.cell? ⟨b, o, none⟩) →
      wpQuiet P l.toArray (fun w' => ∃ g : Gr w, w' = g.val) (fun a' => ∀ w', (∃ g : Gr w, w' = g.val) → wpList P l.toArray Q (l.drop n) a' w') (l.take n) a) : (Code.region id l.toArray true).wp P Q a w := by
  simp only [Region.lexTailB, Bool.and_eq_true, decide_eq_true_eq] at hB
  obtain ⟨⟨⟨⟨hns, hn⟩, hs⟩, hc⟩, hlex⟩ := hB
  have hnl : n < l.length := by simpa using hn
  have htk : (l.take n).length = n := by simp; omega
  have hsz : l.toArray.size = l.length := by simp
  have inv : HeadInv .any l.toArray n (Array.replicate l.toArray.size false) :=
    ⟨by simp, fun j oj _ hl => (by rw [getD_replicate_false] at hl; cases hl), fun t _ ht => getD_in (by simpa using ht) (getD_replicate_false _ _)⟩
  have hH := Heads.lex (g := l.toArray.size - n) hns (waits_all hs hc hn) (l.take n) 0 _ a (Nat.le_refl _) (fun j hj => by
    have hj' : j < n := by rw [htk] at hj; exact hj
    simp [hj']) (by simpa using htk) inv (by rw [htk]; exact hlex) (h fun g b o h => g.b.cell (p := ⟨b, o, none⟩) h)
  have hA := Heads.any (Q := Q) (g := l.toArray.size - n) (fun li a' w' hw' hL => by
    have := wpAny_of_seq (md := .any) (Q' := Q) (l.drop n) n li a' w' (fun j => by simp [List.getElem?_drop]) (by simpa using hL.1) (hL.2 w' hw')
    simpa using this) _ _ _ w.drew ⟨⟨w.drew, (Below.refl _ _).drew⟩, rfl⟩ hH
  refine wp_region_any hm ?_
  rw [htk, show n + (l.toArray.size - n) = l.toArray.size by omega] at hA
  exact hA
def lexTail1B (ops : Array Oper) (n : Nat) : Bool :=
  Region.noSelect ops && decide (n < ops.size) && sinkFrom ops n && Region.chainB .any ops n && decide (0 < n) && Region.free .any ops (Array.replicate ops.size false) 0 &&
    (Region.ready .any ops (Array.replicate ops.size false)).contains 0 && Region.lexHead .any ops (ops.size - n) (n - 1) 1 ((Array.replicate ops.size false).setIfInBounds 0 true)
theorem wp_region_grown_tail1 {id : Nat} {a : Act} {w : World} {o : Oper} {l : List Oper} (n : Nat) (hm : P.follows .mixedOrders = true) (hB : lexTail1B (o :: l).toArray (n + 1) = true)
    (x : Operand) (hop : o.op = .move x) (hgd : o.guard = none) (hQ : ∀ c a v w, Q (.panic c) (a.put o.dst v) w → Q (.panic c) a w)
    (h : (∀ (g : Gr w) b o, b < w.heap.size → g.val.cell? ⟨b, o, none⟩ = w.cell? ⟨b, o, none⟩) →
      wpQuiet P (o :: l).toArray (fun w' => ∃ g : Gr w, w' = g.val) (fun a' => ∀ w', (∃ g : Gr w, w' = g.val) → wpList P (o :: l).toArray Q (l.drop n) a' w') (l.take n) (a.put o.dst (a.eval x))) :
    (Code.region id (o :: l).toArray true).wp P Q a w := by
  simp only [lexTail1B, Bool.and_eq_true, decide_eq_true_eq] at hB
  obtain ⟨⟨⟨⟨⟨⟨⟨hns, hn⟩, hs⟩, hc⟩, _⟩, hfree⟩, hrdy⟩, hlex⟩ := hB
  have hnl : n < l.length := by simpa using hn
  have htk : (l.take n).length = n := by simp; omega
  have h0 : (o :: l).toArray[0]? = some o := rfl
  have hr0 : 0 ∈ Region.ready .any (o :: l).toArray (Array.replicate (o :: l).toArray.size false) := by simpa using hrdy
  have inv : HeadInv .any (o :: l).toArray (n + 1) (Array.replicate (o :: l).toArray.size false) :=
    ⟨by simp, fun j oj _ hl => (by rw [getD_replicate_false] at hl; cases hl), fun t _ ht => getD_in (by simpa using ht) (getD_replicate_false _ _)⟩
  have hH := Heads.lex (g := (o :: l).toArray.size - (n + 1)) hns (waits_from hs hc hn) (l.take n) 1 _ (a.put o.dst (a.eval x)) (Nat.le_refl _) (fun j hj => by
    have hj' : j < n := by rw [htk] at hj; exact hj
    rw [Nat.add_comm]; simp [hj']) (by rw [htk]; omega) (inv.set hr0 (by omega)) (by rw [htk]; exact hlex) (h fun g b o h => g.b.cell (p := ⟨b, o, none⟩) h)
  have hA := Heads.any (Q := Q) (g := (o :: l).toArray.size - (n + 1)) (fun li a' w' hw' hL => by
    have := wpAny_of_seq (md := .any) (Q' := Q) (l.drop n) (n + 1) li a' w' (fun j => by rw [show n + 1 + j = (n + j) + 1 by omega]; simp [List.getElem?_drop]) (by simpa using hL.1) (hL.2 w' hw')
    simpa using this) _ _ _ w.drew ⟨⟨w.drew, (Below.refl _ _).drew⟩, rfl⟩ hH
  refine wp_region_any hm ?_
  have hz : (o :: l).toArray.size = (l.take n).length + ((o :: l).toArray.size - (n + 1)) + 1 := by rw [htk]; omega
  have key : wpAny P .any (o :: l).toArray Q ((l.take n).length + ((o :: l).toArray.size - (n + 1)) + 1) (Array.replicate (o :: l).toArray.size false) a w.drew :=
    wpAny_take h0 hns hfree hrdy (fun c a' w' => hQ c a' _ w') (.inl ⟨by simp [Region.wanted, hgd], fun w' => BigFrame.run_move x hop w'⟩) hA
  rw [← hz] at key
  exact key
end
end Go.Proofs.YtnedcclmfokdnaaGreat
namespace Go.Proofs.YtnedcclmfokdnaaGreat
open Go.RowKit
theorem own_later {w w' : World} {base : Nat} {e : TypeId} {s : Nat} {v : Value} {n : Nat} {xs : List Value} (h : w.ownsRow base e s v n xs) (hb : Below w.heap.size w w') : w'.ownsRow base e s v n xs := by
  refine ⟨h.1, ?_⟩
  rcases h.2 with h2 | ⟨g, cap, cur, hv, hg, hh, r⟩
  · exact .inl h2
  · have hlt : g < w.heap.size := by
      rcases Nat.lt_or_ge g w.heap.size with hlt | hge
      · exact hlt
      · rw [Array.getElem?_eq_none hge] at hh; cases hh
    exact .inr ⟨g, cap, cur, hv, hg, by rw [hb.block g hlt]; exact hh, r⟩
theorem below_own {B n sz : Nat} {W wr w1 : World} {e : TypeId} {v : Value} {xs : List Value} (hb : Below B W wr) (hB : B ≤ wr.heap.size) (hown : wr.ownsRow B e sz v n xs) (hg : wr.grownBy w1 v.ownBlock) : Below B W w1 :=
  hb.grown hg hB fun k hk => (hown.lt k hk).1
theorem below_grown {B : Nat} {a b c : World} (h : Below B a b) (hB : B ≤ b.heap.size) (k : Below b.heap.size b c) : Below B a c := h.trans (k.mono hB)
end Go.Proofs.YtnedcclmfokdnaaGreat
namespace Go.Proofs.YtnedcclmfokdnaaGreat
open Go.RowKit
section
variable {P : Program} {ops : Array Oper} {w0 : World} {Q : Exit → Act → World → Prop}
def RelUpon (P : Program) (u : World) (v : Value) : Result Next → Prop
  | .ok (.value x) w' => w' = u ∧ x = v
  | .ok .skip w' => w' = u ∧ v = undef
  | .ok (.enter f args) w' => w' = u ∧ Calls P f args u (fun e w'' => e = .returned v ∧ Below u.heap.size u w'')
  | _ => False
def RelAt (P : Program) (w0 : World) (o : Oper) (a : Act) (v : Value) : Prop := ∀ g : Gr w0, RelUpon P g.val v ((execOp a.eval o).run P g.val)
def Rel (P : Program) (w0 : World) (o : Oper) (a : Act) (next : Act → Prop) : Prop := ∃ v, RelAt P w0 o a v ∧ next (a.put o.dst v)
def wpRel (P : Program) (ops : Array Oper) (w0 : World) (D : Act → Prop) : List Oper → Act → Prop
  | [], a => D a
  | o :: rest, a => if Region.wanted o (yielded ops a.tmps) then Rel P w0 o a (wpRel P ops w0 D rest) else wpRel P ops w0 D rest (a.put o.dst undef)
theorem wpRel_nil {D : Act → Prop} {a : Act} (h : D a) : wpRel P ops w0 D [] a := h
theorem wpRel_step {D : Act → Prop} {a : Act} {o : Oper} {rest : List Oper}
    (h : ∀ K : Act → Prop, (∀ a, wpRel P ops w0 D rest a → K a) → if Region.wanted o (yielded ops a.tmps) then Rel P w0 o a K else K (a.put o.dst undef)) : wpRel P ops w0 D (o :: rest) a :=
  h _ fun _ h => h
def YRel (P : Program) (ops : Array Oper) (w0 : World) (o : Oper) (v : Value) (a : Act) : Prop :=
  (Region.wanted o (yielded ops a.tmps) = true ∧ RelAt P w0 o a v) ∨ (Region.wanted o (yielded ops a.tmps) = false ∧ v = undef)
theorem YRel.same {o : Oper} {v : Value} {a a' : Act} (h : YRel P ops w0 o v a) (he : execOp a'.eval o = execOp a.eval o) (hw : Region.wanted o (yielded ops a'.tmps) = Region.wanted o (yielded ops a.tmps)) : YRel P ops w0 o v a' := by
  unfold YRel RelAt at *
  rw [he, hw]
  exact h
def Boxed (w0 : World) (K : Act → World → Prop) (a : Act) (w : World) : Prop := Below w0.heap.size w0 w ∧ ∀ u, Below w.heap.size w u → K a u
theorem YRel.op {i : Nat} {o : Oper} {v : Value} {a : Act} (hi : ops[i]? = some o) (h : YRel P ops w0 o v a) {K : Act → World → Prop} {u : World} (hu : Below w0.heap.size w0 u)
    (hK : ∀ u', Below u.heap.size u u' → K (a.put o.dst v) u') : wpOp P ops Q i (Boxed w0 K) a u := by
  unfold wpOp
  simp only [hi]
  rcases h with ⟨hw, hr⟩ | ⟨hw, rfl⟩
  · simp only [hw, if_true]
    refine .inl ?_
    have := hr ⟨u, hu⟩
    unfold Oper.wp
    dsimp only at this
    generalize (execOp a.eval o).run P u = r at *
    cases r with
    | ok n w' =>
      cases n <;> simp only [RelUpon] at this <;> simp only [Oper.upon]
      case value x => obtain ⟨rfl, rfl⟩ := this; exact ⟨hu, hK⟩
      case skip => obtain ⟨rfl, rfl⟩ := this; exact ⟨hu, hK⟩
      case enter f args =>
        obtain ⟨rfl, hc⟩ := this
        refine hc.mono fun e w'' ⟨he, hb⟩ => ?_
        subst he
        exact ⟨below_then hu hb, fun u' hu' => hK u' (below_then hb hu')⟩
    | halt x w' => simp only [RelUpon] at this
  · simp only [hw, Bool.false_eq_true, if_false]
    exact ⟨hu, hK⟩
theorem boxed_put {j : Nat} {oi oj : Oper} {v : Value} (hj : ops[j]? = some oj) (hap : oi.apart ops oj = true) (hsi : ∀ cs b, oi.op ≠ .select cs b) (hsj : ∀ cs b, oj.op ≠ .select cs b)
    (hQ : ∀ c a w, Q (.panic c) (a.put oi.dst v) w → Q (.panic c) a w) {K : Act → World → Prop} {a : Act} {w : World} (hy : YRel P ops w0 oi v a) (h : wpOp P ops Q j K (a.put oi.dst v) w) :
    wpOp P ops Q j (fun a' w' => YRel P ops w0 oi v a' ∧ K (a'.put oi.dst v) w') a w := by
  obtain ⟨h1, h2, h3⟩ := Oper.apart_spec hap
  have keep : ∀ u, YRel P ops w0 oi v (a.put oj.dst u) := fun u => hy.same (execOp_put oi hsi a oj.dst u h3) (wanted_put oi a oj.dst u h3)
  have back : ∀ u, (a.put oi.dst v).put oj.dst u = (a.put oj.dst u).put oi.dst v := fun u => Act.put_comm a v u h2
  unfold wpOp at *
  simp only [hj] at *
  rw [wanted_put oj a oi.dst v h1] at h
  cases hw : Region.wanted oj (yielded ops a.tmps) with
  | false =>
    simp only [hw, Bool.false_eq_true, if_false] at h ⊢
    exact ⟨keep _, by rw [← back]; exact h⟩
  | true =>
    simp only [hw, if_true] at h ⊢
    rcases h with h | ⟨ha, hl⟩
    · refine .inl ?_
      unfold Oper.wp at *
      rw [execOp_put oj hsj a oi.dst v h1] at h
      generalize (execOp a.eval oj).run P w = r at *
      match r, h with
      | .ok (.value u) w', h => exact ⟨keep u, by rw [← back]; exact h⟩
      | .ok .skip w', h => exact ⟨keep _, by rw [← back]; exact h⟩
      | .ok (.defer d) w', h =>
        refine ⟨YRel.same (a := a) (hy) ?_ ?_, ?_⟩
        · exact execOp_put oi hsi { a with defers := d :: a.defers } oj.dst undef h3
        · exact wanted_put oi { a with defers := d :: a.defers } oj.dst undef h3
        · have e := Act.put_comm { a with defers := d :: a.defers } v undef h2
          rw [← e, ← Act.put_defers]
          exact h
      | .ok (.enter f args) w', h =>
        refine Calls.mono h fun e w'' he => ?_
        match e, he with
        | .returned u, he => exact ⟨keep u, by rw [← back]; exact he⟩
        | .panicked c, he => exact hQ _ _ _ he
        | .outgrown, he => exact he
      | .ok (.row row args) w', h => exact Rows.mono h fun u w'' he => ⟨keep u, by rw [← back]; exact he⟩
      | .halt (.panic u) w', h => exact hQ _ _ _ h
    · refine .inr ⟨?_, hl⟩
      unfold Oper.asks at *
      rw [execOp_put oj hsj a oi.dst v h1] at ha
      exact ha
def wpB (P : Program) (ops : Array Oper) (w0 : World) (Q : Exit → Act → World → Prop) : Nat → Array Bool → Act → World → Prop
  | 0, listed, a, w => Region.ready .any ops listed = [] ∧ Q .normal a w
  | f + 1, listed, a, w => (Region.ready .any ops listed = [] → Q .normal a w) ∧ ∀ i ∈ Region.ready .any ops listed, wpOp P ops Q i (Boxed w0 (wpB P ops w0 Q f (listed.setIfInBounds i true))) a w
theorem wpB.any : ∀ (f : Nat) (listed : Array Bool) (a : Act) (w : World), wpB P ops w0 Q f listed a w → wpAny P .any ops Q f listed a w
  | 0, _, _, _, h => h
  | f + 1, _, _, _, h => ⟨h.1, fun i hi => wpOp_mono (fun a' w' hb => wpB.any f _ a' w' (hb.2 w' (Below.refl _ _))) (h.2 i hi)⟩
theorem wpB.first {i : Nat} {o : Oper} {v : Value} (hi : ops[i]? = some o) (hns : Region.noSelect ops = true) (hQ : ∀ c a d v w, Q (.panic c) (Act.put a d v) w → Q (.panic c) a w) (f : Nat) :
    ∀ (listed : Array Bool) (a : Act) (w : World), Below w0.heap.size w0 w →
      (∀ j oj, ops[j]? = some oj → j ≠ i → listed.getD j true = false → (∀ e ∈ oj.after, Region.binds .any e = true → e.on ≠ i) → o.apart ops oj = true) →
      i ∈ Region.ready .any ops listed → YRel P ops w0 o v a → (∀ u, Below w.heap.size w u → wpB P ops w0 Q f (listed.setIfInBounds i true) (a.put o.dst v) u) →
      ∀ u, Below w.heap.size w u → wpB P ops w0 Q (f + 1) listed a u := by
  have hsel := Region.noSelect_spec hns
  induction f with
  | zero =>
    intro listed a w hw _ hr hy H u hu
    refine ⟨fun h => (by rw [h] at hr; cases hr), fun j hj => ?_⟩
    by_cases e : j = i
    · subst e
      exact hy.op hi (below_then hw hu) fun u' hu' => H u' (below_then hu hu')
    · have h1 := ready_mono hj e
      rw [(H u hu).1] at h1
      cases h1
  | succ f ih =>
    intro listed a w hw hfree hr hy H u hu
    refine ⟨fun h => (by rw [h] at hr; cases hr), fun j hj => ?_⟩
    by_cases e : j = i
    · subst e
      exact hy.op hi (below_then hw hu) fun u' hu' => H u' (below_then hu hu')
    · obtain ⟨hun, _⟩ := mem_ready.1 hr
      obtain ⟨huj, oj, hoj, hdone⟩ := mem_ready.1 hj
      have hfar : ∀ x ∈ oj.after, Region.binds .any x = true → x.on ≠ i := by
        intro x hx hb hxi
        have := hdone x hx hb
        rw [hxi] at this
        rcases Nat.lt_or_ge i listed.size with hl | hl
        · simp [hl] at hun this; rw [hun] at this; cases this
        · simp [Array.getElem?_eq_none hl] at hun
      have h2 := boxed_put (w0 := w0) hoj (hfree j oj hoj e huj hfar) (fun cs b => hsel i o cs b hi) (fun cs b => hsel j oj cs b hoj) (fun c a' w' => hQ c a' _ _ w') hy ((H u hu).2 j (ready_mono hj e))
      refine wpOp_mono (fun a' w' hb => ?_) h2
      obtain ⟨hy', hb', hall⟩ := hb
      refine ⟨hb', fun u' hu' => ih (listed.setIfInBounds j true) a' w' hb' (fun m om hm hmi hum hnm => ?_) (ready_mono hr (Ne.symm e)) hy' (fun u'' hu'' => ?_) u' hu'⟩
      · have hum' : listed.getD m true = false := by
          by_cases e2 : j = m
          · subst e2; exact huj
          · rw [getD_set_ne true e2] at hum; exact hum
        exact hfree m om hm hmi hum' hnm
      · rw [Array.setIfInBounds_comm _ _ e]; exact hall u'' hu''
theorem yrel_of_step {D : Act → Prop} {o : Oper} {rest : List Oper} {a : Act} (h : wpRel P ops w0 D (o :: rest) a) : ∃ v, YRel P ops w0 o v a ∧ wpRel P ops w0 D rest (a.put o.dst v) := by
  unfold wpRel at h
  cases hw : Region.wanted o (yielded ops a.tmps) with
  | true =>
    simp only [hw, if_true] at h
    obtain ⟨v, h1, h2⟩ := h
    exact ⟨v, .inl ⟨hw, h1⟩, h2⟩
  | false =>
    simp only [hw, Bool.false_eq_true, if_false] at h
    exact ⟨undef, .inr ⟨hw, rfl⟩, h⟩
theorem wpB.lex {n g : Nat} {D : Act → Prop} (hns : Region.noSelect ops = true) (hQ : ∀ c a d v w, Q (.panic c) (Act.put a d v) w → Q (.panic c) a w) (w : World) (hw : Below w0.heap.size w0 w)
    (hend : ∀ listed a, Region.seqB .any ops g n listed = true → D a → ∀ u, Below w.heap.size w u → wpB P ops w0 Q g listed a u) (l : List Oper) :
    ∀ (k : Nat) (listed : Array Bool) (a : Act), (∀ j, j < l.length → l[j]? = ops[k + j]?) → k + l.length = n → Region.lexHead .any ops g l.length k listed = true → wpRel P ops w0 D l a →
      ∀ u, Below w.heap.size w u → wpB P ops w0 Q (l.length + g) listed a u := by
  induction l with
  | nil =>
    intro k listed a _ hk hB h u hu
    obtain rfl : k = n := by simpa using hk
    rw [List.length_nil, Nat.zero_add]
    exact hend listed a (by simpa [Region.lexHead] using hB) h u hu
  | cons o l ih =>
    intro k listed a hat hk hB h u hu
    have hok : ops[k]? = some o := by simpa using (hat 0 (by simp)).symm
    simp only [List.length_cons] at hk
    simp only [List.length_cons, Region.lexHead, Bool.and_eq_true] at hB
    obtain ⟨v, hy, hD⟩ := yrel_of_step h
    rw [List.length_cons, Nat.add_right_comm]
    refine wpB.first hok hns hQ (l.length + g) listed a w hw (Region.free_spec hok hB.1.2) (by simpa using hB.1.1) hy (fun u' hu' => ?_) u hu
    refine ih (k + 1) _ _ (fun j hj => ?_) (by omega) hB.2 hD u' hu'
    have := hat (j + 1) (by simp; omega)
    simpa [Nat.add_assoc, Nat.add_comm 1 j] using this
def wpBox (P : Program) (w0 : World) (Q : Exit → Act → World → Prop) : List Oper → Act → World → Prop
  | [], a, w => Q .normal a w
  | o :: rest, a, w => o.guard = none ∧ o.wp P a w (Boxed w0 (wpBox P w0 Q rest)) Q
theorem wpB.seq (l : List Oper) : ∀ (k : Nat) (listed : Array Bool) (a : Act) (w : World), (∀ j, j < l.length → l[j]? = ops[k + j]?) → Region.seqB .any ops l.length k listed = true → wpBox P w0 Q l a w →
    wpB P ops w0 Q l.length listed a w := by
  induction l with
  | nil => intro k listed a w _ hB h; exact ⟨by simpa [Region.seqB] using hB, h⟩
  | cons o l ih =>
    intro k listed a w hat hB ⟨hg, h⟩
    have hok : ops[k]? = some o := by simpa using (hat 0 (by simp)).symm
    simp only [List.length_cons, Region.seqB, Bool.and_eq_true, decide_eq_true_eq] at hB
    refine ⟨fun h1 => (by rw [hB.1] at h1; cases h1), fun i hi => ?_⟩
    rw [hB.1] at hi
    obtain rfl : i = k := by simpa using hi
    unfold wpOp
    simp only [hok, Region.wanted, hg, if_true]
    refine .inl (Oper.wp_mono (fun a' w' hb => ⟨hb.1, fun u hu => ih (i + 1) _ a' u (fun j hj => ?_) hB.2 (hb.2 u hu)⟩) h)
    have := hat (j + 1) (by simp; omega)
    simpa [Nat.add_assoc, Nat.add_comm 1 j] using this
def boxedB (ops : Array Oper) (n : Nat) : Bool := Region.noSelect ops && decide (n ≤ ops.size) && Region.lexHead .any ops (ops.size - n) n 0 (Array.replicate ops.size false)
theorem wp_region_boxed {id : Nat} {a : Act} {w : World} {l : List Oper} (n : Nat) (hm : P.follows .mixedOrders = true) (hB : boxedB l.toArray n = true) (hQ : ∀ c a d v w, Q (.panic c) (Act.put a d v) w → Q (.panic c) a w)
    (h : (∀ (g : Gr w) b o, b < w.heap.size → g.val.cell? ⟨b, o, none⟩ = w.cell? ⟨b, o, none⟩) → wpRel P l.toArray w (fun a' => ∀ g : Gr w, wpBox P w Q (l.drop n) a' g.val) (l.take n) a) : (Code.region id l.toArray true).wp P Q a w := by
  simp only [boxedB, Bool.and_eq_true, decide_eq_true_eq] at hB
  obtain ⟨⟨hns, hn⟩, hlex⟩ := hB
  have hnl : n ≤ l.length := by simpa using hn
  have htk : (l.take n).length = n := by simp; omega
  have hdl : (l.drop n).length = l.toArray.size - n := by simp
  have H := wpB.lex (Q := Q) (g := l.toArray.size - n) (D := fun a' => ∀ g : Gr w, wpBox P w Q (l.drop n) a' g.val) hns hQ w (Below.refl _ _) (fun listed a' hs hD u hu => by
    have := wpB.seq (ops := l.toArray) (l.drop n) n listed a' u (fun j _ => by simp [List.getElem?_drop]) (by rw [hdl]; exact hs) (hD ⟨u, hu⟩)
    rwa [hdl] at this) (l.take n) 0 (Array.replicate l.toArray.size false) a (fun j hj => by
    have hj' : j < n := by rw [htk] at hj; exact hj
    simp [hj']) (by simpa using htk) (by rw [htk]; exact hlex) (h fun g b o h => g.b.cell (p := ⟨b, o, none⟩) h) w.drew ((Below.refl _ _).drew)
  refine wp_region_any hm ?_
  rw [htk, show n + (l.toArray.size - n) = l.toArray.size by omega] at H
  exact wpB.any _ _ _ _ H
end
end Go.Proofs.YtnedcclmfokdnaaGreat
namespace Go.Proofs.YtnedcclmfokdnaaGreat
open Go.RowKit
section
variable {P : Program} {ops : Array Oper} {w0 : World} {Q : Exit → Act → World → Prop} {S : Nat → Bool}
def BoxS (s : Bool) (w0 : World) (K : Act → World → Prop) (a : Act) (w : World) : Prop := if s then K a w else Boxed w0 K a w
theorem BoxS.now {s : Bool} {K : Act → World → Prop} {a : Act} {w : World} (h : BoxS s w0 K a w) : K a w := by
  cases s
  · exact (show Boxed w0 K a w from h).2 w (Below.refl _ _)
  · exact h
def wpC (P : Program) (ops : Array Oper) (w0 : World) (S : Nat → Bool) (Q : Exit → Act → World → Prop) : Nat → Array Bool → Act → World → Prop
  | 0, listed, a, w => Region.ready .any ops listed = [] ∧ Q .normal a w
  | f + 1, listed, a, w => (Region.ready .any ops listed = [] → Q .normal a w) ∧ ∀ i ∈ Region.ready .any ops listed, wpOp P ops Q i (BoxS (S i) w0 (wpC P ops w0 S Q f (listed.setIfInBounds i true))) a w
theorem wpC.any : ∀ (f : Nat) (listed : Array Bool) (a : Act) (w : World), wpC P ops w0 S Q f listed a w → wpAny P .any ops Q f listed a w
  | 0, _, _, _, h => h
  | f + 1, _, _, _, h => ⟨h.1, fun i hi => wpOp_mono (fun a' w' hb => wpC.any f _ a' w' hb.now) (h.2 i hi)⟩
theorem wpC.first {i : Nat} {o : Oper} {v : Value} (hi : ops[i]? = some o) (hns : Region.noSelect ops = true) (hQ : ∀ c a d v w, Q (.panic c) (Act.put a d v) w → Q (.panic c) a w)
    (hSi : S i = false) (hS : ∀ j oj, ops[j]? = some oj → S j = true → ∃ e ∈ oj.after, Region.binds .any e = true ∧ e.on = i) (f : Nat) :
    ∀ (listed : Array Bool) (a : Act) (w : World), Below w0.heap.size w0 w →
      (∀ j oj, ops[j]? = some oj → j ≠ i → listed.getD j true = false → (∀ e ∈ oj.after, Region.binds .any e = true → e.on ≠ i) → o.apart ops oj = true) →
      i ∈ Region.ready .any ops listed → YRel P ops w0 o v a → (∀ u, Below w.heap.size w u → wpC P ops w0 S Q f (listed.setIfInBounds i true) (a.put o.dst v) u) →
      ∀ u, Below w.heap.size w u → wpC P ops w0 S Q (f + 1) listed a u := by
  have hsel := Region.noSelect_spec hns
  induction f with
  | zero =>
    intro listed a w hw _ hr hy H u hu
    refine ⟨fun h => (by rw [h] at hr; cases hr), fun j hj => ?_⟩
    by_cases e : j = i
    · subst e
      rw [hSi]
      exact hy.op hi (below_then hw hu) fun u' hu' => H u' (below_then hu hu')
    · have h1 := ready_mono hj e
      rw [(H u hu).1] at h1
      cases h1
  | succ f ih =>
    intro listed a w hw hfree hr hy H u hu
    refine ⟨fun h => (by rw [h] at hr; cases hr), fun j hj => ?_⟩
    by_cases e : j = i
    · subst e
      rw [hSi]
      exact hy.op hi (below_then hw hu) fun u' hu' => H u' (below_then hu hu')
    · obtain ⟨hun, _⟩ := mem_ready.1 hr
      obtain ⟨huj, oj, hoj, hdone⟩ := mem_ready.1 hj
      have hfar : ∀ x ∈ oj.after, Region.binds .any x = true → x.on ≠ i := by
        intro x hx hb hxi
        have := hdone x hx hb
        rw [hxi] at this
        rcases Nat.lt_or_ge i listed.size with hl | hl
        · simp [hl] at hun this; rw [hun] at this; cases this
        · simp [Array.getElem?_eq_none hl] at hun
      have hSj : S j = false := by
        cases hs : S j with
        | false => rfl
        | true => obtain ⟨x, hx, hb, hxi⟩ := hS j oj hoj hs; exact absurd hxi (hfar x hx hb)
      have h2 := boxed_put (w0 := w0) hoj (hfree j oj hoj e huj hfar) (fun cs b => hsel i o cs b hi) (fun cs b => hsel j oj cs b hoj) (fun c a' w' => hQ c a' _ _ w') hy ((H u hu).2 j (ready_mono hj e))
      rw [hSj] at h2 ⊢
      refine wpOp_mono (fun a' w' hb => ?_) h2
      obtain ⟨hy', hb', hall⟩ := hb
      refine ⟨hb', fun u' hu' => ih (listed.setIfInBounds j true) a' w' hb' (fun m om hm hmi hum hnm => ?_) (ready_mono hr (Ne.symm e)) hy' (fun u'' hu'' => ?_) u' hu'⟩
      · have hum' : listed.getD m true = false := by
          by_cases e2 : j = m
          · subst e2; exact huj
          · rw [getD_set_ne true e2] at hum; exact hum
        exact hfree m om hm hmi hum' hnm
      · rw [Array.setIfInBounds_comm _ _ e]; exact hall u'' hu''
def seqI (ops : Array Oper) : List Nat → Array Bool → Bool
  | [], listed => (Region.ready .any ops listed).isEmpty
  | i :: ts, listed => decide (Region.ready .any ops listed = [i]) && seqI ops ts (listed.setIfInBounds i true)
def headI (ops : Array Oper) (ts : List Nat) : List Nat → Array Bool → Bool
  | [], listed => seqI ops ts listed
  | i :: hs, listed => ((Region.ready .any ops listed).contains i && Region.free .any ops listed i) && headI ops ts hs (listed.setIfInBounds i true)
def pick (ops : Array Oper) (is : List Nat) : List Oper := is.filterMap fun i => ops[i]?
theorem pick_cons {ops : Array Oper} {i : Nat} {is : List Nat} {o : Oper} (h : ops[i]? = some o) : pick ops (i :: is) = o :: pick ops is := by unfold pick; rw [List.filterMap_cons, h]
theorem wpC.close : ∀ (cs : List Nat) (listed : Array Bool) (a : Act) (w : World), cs.all (fun i => decide (i < ops.size)) = true → cs.all S = true → seqI ops cs listed = true → wpList P ops Q (pick ops cs) a w → wpC P ops w0 S Q cs.length listed a w
  | [], listed, a, w, _, _, hB, h => ⟨by simpa [seqI] using hB, h⟩
  | i :: cs, listed, a, w, hl, hs, hB, h => by
    simp only [List.all_cons, Bool.and_eq_true, decide_eq_true_eq] at hl hs
    obtain ⟨o, ho⟩ : ∃ o, ops[i]? = some o := ⟨_, Array.getElem?_eq_getElem hl.1⟩
    rw [pick_cons ho] at h
    simp only [seqI, Bool.and_eq_true, decide_eq_true_eq] at hB
    refine ⟨fun h1 => (by rw [hB.1] at h1; cases h1), fun j hj => ?_⟩
    rw [hB.1] at hj
    obtain rfl : j = i := by simpa using hj
    rw [hs.1]
    unfold wpOp
    unfold wpList at h
    simp only [ho]
    cases hw : Region.wanted o (yielded ops a.tmps) with
    | true =>
      simp only [hw, if_true] at h ⊢
      exact h.imp (Oper.wp_mono (fun a' w' hb => wpC.close cs _ a' w' hl.2 hs.2 hB.2 hb)) id
    | false =>
      simp only [hw, Bool.false_eq_true, if_false] at h ⊢
      exact wpC.close cs _ _ w hl.2 hs.2 hB.2 h
def wpMid (P : Program) (w0 : World) (Q : Exit → Act → World → Prop) (E : Act → World → Prop) : List Oper → Act → World → Prop
  | [], a, w => E a w
  | o :: rest, a, w => o.guard = none ∧ o.wp P a w (Boxed w0 (wpMid P w0 Q E rest)) Q
theorem wpC.mid {cs : List Nat} {E : Act → World → Prop} (hend : ∀ listed a w, seqI ops cs listed = true → E a w → wpC P ops w0 S Q cs.length listed a w) :
    ∀ (ts : List Nat) (listed : Array Bool) (a : Act) (w : World), ts.all (fun i => decide (i < ops.size)) = true → ts.all (fun i => !S i) = true → seqI ops (ts ++ cs) listed = true → wpMid P w0 Q E (pick ops ts) a w → wpC P ops w0 S Q (ts.length + cs.length) listed a w
  | [], listed, a, w, _, _, hB, h => by rw [List.length_nil, Nat.zero_add]; exact hend listed a w hB h
  | i :: ts, listed, a, w, hl, hs, hB, h => by
    simp only [List.all_cons, Bool.and_eq_true, decide_eq_true_eq, Bool.not_eq_true'] at hl hs
    obtain ⟨o, ho⟩ : ∃ o, ops[i]? = some o := ⟨_, Array.getElem?_eq_getElem hl.1⟩
    rw [pick_cons ho] at h
    obtain ⟨hg, h⟩ := h
    simp only [List.cons_append, seqI, Bool.and_eq_true, decide_eq_true_eq] at hB
    rw [List.length_cons, Nat.add_right_comm]
    refine ⟨fun h1 => (by rw [hB.1] at h1; cases h1), fun j hj => ?_⟩
    rw [hB.1] at hj
    obtain rfl : j = i := by simpa using hj
    rw [hs.1]
    unfold wpOp
    simp only [ho, Region.wanted, hg, if_true]
    exact .inl (Oper.wp_mono (fun a' w' hb => ⟨hb.1, fun u hu => wpC.mid hend ts _ a' u hl.2 (by simpa using hs.2) hB.2 (hb.2 u hu)⟩) h)
theorem wpC.headI_ {ts : List Nat} {D : Act → Prop} (hns : Region.noSelect ops = true) (hQ : ∀ c a d v w, Q (.panic c) (Act.put a d v) w → Q (.panic c) a w) (w : World) (hw : Below w0.heap.size w0 w)
    (hend : ∀ listed a, seqI ops ts listed = true → D a → ∀ u, Below w.heap.size w u → wpC P ops w0 S Q ts.length listed a u) :
    ∀ (hs : List Nat) (listed : Array Bool) (a : Act), hs.all (fun i => decide (i < ops.size)) = true → hs.all (fun i => !S i) = true → (∀ i ∈ hs, ∀ j oj, ops[j]? = some oj → S j = true → ∃ e ∈ oj.after, Region.binds .any e = true ∧ e.on = i) →
      headI ops ts hs listed = true → wpRel P ops w0 D (pick ops hs) a →
      ∀ u, Below w.heap.size w u → wpC P ops w0 S Q (hs.length + ts.length) listed a u
  | [], listed, a, _, _, _, hB, h, u, hu => by rw [List.length_nil, Nat.zero_add]; exact hend listed a hB h u hu
  | i :: hs, listed, a, hl, hn, hS, hB, h, u, hu => by
    simp only [List.all_cons, Bool.and_eq_true, decide_eq_true_eq, Bool.not_eq_true'] at hl hn
    obtain ⟨o, ho⟩ : ∃ o, ops[i]? = some o := ⟨_, Array.getElem?_eq_getElem hl.1⟩
    rw [pick_cons ho] at h
    simp only [headI, Bool.and_eq_true] at hB
    obtain ⟨v, hy, hD⟩ := yrel_of_step h
    rw [List.length_cons, Nat.add_right_comm]
    exact wpC.first ho hns hQ hn.1 (hS i (by simp)) (hs.length + ts.length) listed a w hw (Region.free_spec ho hB.1.2) (by simpa using hB.1.1) hy
      (fun u' hu' => wpC.headI_ hns hQ w hw hend hs _ _ hl.2 (by simpa using hn.2) (fun k hk => hS k (by simp [hk])) hB.2 hD u' hu') u hu
end
end Go.Proofs.YtnedcclmfokdnaaGreat
