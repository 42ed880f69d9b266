/- A drawn region by a plan, as XPlan, with guarded operations in it: a forced step that is not wanted is passed over. No program is named here. -/
import Derived.Test.YtnedcclmfokdnaaGreatJ10
import Derived.Test.YtnedcclmfokdnaaGreatZPlanE
namespace Go.Proofs.YtnedcclmfokdnaaGreat
open Go Go.RowKit

section
variable {P : Program} {ops : Array Oper} {w0 : World} {Q : Exit → Act → World → Prop} {S : Nat → Bool}
def wpPlanW (P : Program) (ops : Array Oper) (Q : Exit → Act → World → Prop) (E : Act → World → Prop) : List Stp → Act → World → Prop
  | [], a, w => E a w
  | .f is :: ps, a, w => wpRel P ops w (fun a' => ∀ u, Below w.heap.size w u → wpPlanW P ops Q E ps a' u) (pick ops is) a
  | .s i :: ps, a, w => ∃ o, ops[i]? = some o ∧ if Region.wanted o (yielded ops a.tmps) then o.wp P a w (Boxed w (wpPlanW P ops Q E ps)) Q else ∀ u, Below w.heap.size w u → wpPlanW P ops Q E ps (a.put o.dst undef) u
theorem wpPlanW_nil {E : Act → World → Prop} {a : Act} {w : World} (h : E a w) : wpPlanW P ops Q E [] a w := h
theorem wpPlanW_f {E : Act → World → Prop} {is : List Nat} {ps : List Stp} {a : Act} {w : World} (h : wpRel P ops w (fun a' => ∀ u, Below w.heap.size w u → wpPlanW P ops Q E ps a' u) (pick ops is) a) : wpPlanW P ops Q E (.f is :: ps) a w := h
theorem wpPlanW_s {E : Act → World → Prop} {i : Nat} {ps : List Stp} {a : Act} {w : World} {o : Oper} (ho : ops[i]? = some o)
    (h : ∀ K : Act → World → Prop, (∀ a' w', Below w.heap.size w w' → (∀ u, Below w'.heap.size w' u → wpPlanW P ops Q E ps a' u) → K a' w') → if Region.wanted o (yielded ops a.tmps) then o.wp P a w K Q else K (a.put o.dst undef) w) : wpPlanW P ops Q E (.s i :: ps) a w := by
  refine ⟨o, ho, ?_⟩
  cases hw : Region.wanted o (yielded ops a.tmps) with
  | true =>
    have := h (Boxed w (wpPlanW P ops Q E ps)) (fun a' w' h1 h2 => ⟨h1, h2⟩)
    rw [hw] at this
    exact this
  | false =>
    have := h (fun a' w' => ∀ u, Below w'.heap.size w' u → wpPlanW P ops Q E ps a' u) (fun a' w' _ h2 => h2)
    rw [hw] at this
    exact this
/-- A read whose value is told, and one that is passed over. -/
theorem wpRel_val {D : Act → Prop} {a : Act} {o : Oper} {rest : List Oper} (v : Value) (hw : Region.wanted o (yielded ops a.tmps) = true) (hv : ∀ g : Gr w0, (execOp a.eval o).run P g.val = .ok (.value v) g.val)
    (h : wpRel P ops w0 D rest (a.put o.dst v)) : wpRel P ops w0 D (o :: rest) a := by
  unfold wpRel; rw [if_pos hw]; exact ⟨v, fun g => by rw [hv g]; exact ⟨rfl, rfl⟩, h⟩
theorem wpRel_pass {D : Act → Prop} {a : Act} {o : Oper} {rest : List Oper} (hw : Region.wanted o (yielded ops a.tmps) = false) (h : wpRel P ops w0 D rest (a.put o.dst undef)) : wpRel P ops w0 D (o :: rest) a := by
  unfold wpRel; rw [if_neg (by rw [hw]; simp)]; exact h
theorem wpPlanW_pass {E : Act → World → Prop} {i : Nat} {ps : List Stp} {a : Act} {w : World} {o : Oper} (ho : ops[i]? = some o) (hw : Region.wanted o (yielded ops a.tmps) = false)
    (h : ∀ u, Below w.heap.size w u → wpPlanW P ops Q E ps (a.put o.dst undef) u) : wpPlanW P ops Q E (.s i :: ps) a w := by
  refine ⟨o, ho, ?_⟩
  rw [if_neg (by rw [hw]; simp)]; exact h
theorem wpPlanW_call {E : Act → World → Prop} {i : Nat} {ps : List Stp} {a : Act} {w : World} {o : Oper} (ho : ops[i]? = some o) (hw : Region.wanted o (yielded ops a.tmps) = true)
    (h : ∀ K : Act → World → Prop, (∀ a' w', Below w.heap.size w w' → (∀ u, Below w'.heap.size w' u → wpPlanW P ops Q E ps a' u) → K a' w') → o.wp P a w K Q) : wpPlanW P ops Q E (.s i :: ps) a w := by
  refine ⟨o, ho, ?_⟩
  rw [if_pos hw]
  exact h (Boxed w (wpPlanW P ops Q E ps)) (fun a' w' h1 h2 => ⟨h1, h2⟩)
theorem wpC.planW {cs : List Nat} {E : Act → World → Prop} (hns : Region.noSelect ops = true) (hQ : ∀ c a d v w, Q (.panic c) (Act.put a d v) w → Q (.panic c) a w)
    (hend : ∀ listed a w, seqI ops cs listed = true → E a w → ∀ w1, wpC P ops w1 S Q cs.length listed a w) :
    ∀ (ps : List Stp) (listed : Array Bool) (a : Act) (w : World), closedL ops listed → ps.all (fun p => p.is.all fun i => decide (i < ops.size)) = true → ps.all (fun p => p.is.all fun i => !S i) = true → (∀ p ∈ ps, ∀ i ∈ p.is, ∀ j, j < ops.size → S j = true → waitsT ops i ops.size j = true) →
      planB ops cs ps listed = true → wpPlanW P ops Q E ps a w → wpC P ops w S Q (lenP ps + cs.length) listed a w
  | [], listed, a, w, _, _, _, _, hB, h => by rw [lenP, Nat.zero_add]; exact hend listed a w hB h w
  | .f is :: ps, listed, a, w, hcl, hl, hn, hS, hB, h => by
    rw [List.all_cons, Bool.and_eq_true] at hl hn
    simp only [planB, Bool.and_eq_true] at hB
    rw [lenP, Nat.add_assoc]
    refine wpC.group hns hQ w (Below.refl _ _) is listed a hcl hl.1 hn.1 (fun i hi => hS _ (List.mem_cons_self ..) i hi) hB.1 (fun hcl2 a' hD u hu => ?_) h w (Below.refl _ _)
    exact wpC.base hu _ _ _ _ (wpC.planW hns hQ hend ps _ _ u hcl2 hl.2 hn.2 (fun p hp => hS p (List.mem_cons_of_mem _ hp)) hB.2 (hD u hu))
  | .s i :: ps, listed, a, w, hcl, hl, hn, hS, hB, h => by
    rw [List.all_cons, Bool.and_eq_true] at hl hn
    have hSi : S i = false := by have := hn.1; simpa [Stp.is] using this
    obtain ⟨o, ho, h⟩ := h
    simp only [planB, Bool.and_eq_true, decide_eq_true_eq] at hB
    rw [lenP, Nat.add_right_comm]
    have hri : i ∈ Region.ready .any ops listed := by rw [hB.1]; simp
    refine ⟨fun h1 => (by rw [hB.1] at h1; cases h1), fun j hj => ?_⟩
    rw [hB.1] at hj
    obtain rfl : j = i := by simpa using hj
    rw [hSi]
    unfold wpOp
    simp only [ho]
    cases hw : Region.wanted o (yielded ops a.tmps) with
    | true =>
      rw [hw, if_pos rfl] at h
      rw [if_pos rfl]
      refine .inl (Oper.wp_mono (fun a' w' hb => ?_) h)
      exact (show Boxed w _ a' w' from ⟨hb.1, fun u hu => wpC.base (below_then hb.1 hu) _ _ _ _ (wpC.planW hns hQ hend ps _ a' u (hcl.set hri) hl.2 hn.2 (fun p hp => hS p (List.mem_cons_of_mem _ hp)) hB.2 (hb.2 u hu))⟩)
    | false =>
      rw [hw, if_neg (by simp)] at h
      rw [if_neg (by simp)]
      exact (show Boxed w _ _ w from ⟨Below.refl _ _, fun u hu => wpC.base hu _ _ _ _ (wpC.planW hns hQ hend ps _ _ u (hcl.set hri) hl.2 hn.2 (fun p hp => hS p (List.mem_cons_of_mem _ hp)) hB.2 (h u hu))⟩)
theorem wp_region_planW {id : Nat} {a : Act} {w : World} {l : List Oper} (ps : List Stp) (cs : List Nat) (hm : P.follows .mixedOrders = true) (hB : planTB l.toArray ps cs = true) (hQ : ∀ c a d v w, Q (.panic c) (Act.put a d v) w → Q (.panic c) a w)
    (h : ∀ u, Below w.heap.size w u → wpPlanW P l.toArray Q (wpList P l.toArray Q (pick l.toArray cs)) ps a u) : (Code.region id l.toArray true).wp P Q a w := by
  simp only [planTB, Bool.and_eq_true, decide_eq_true_eq] at hB
  obtain ⟨⟨⟨⟨⟨⟨hns, h1⟩, h3⟩, h4⟩, h5⟩, h7⟩, h8⟩ := hB
  have hc : cs.all (fun i => cs.contains i) = true := by simp
  have H := wpC.planW (P := P) (S := fun i => cs.contains i) (cs := cs) (E := wpList P l.toArray Q (pick l.toArray cs)) hns hQ (fun listed a' w' hs hE w1 => wpC.close cs listed a' w' h3 hc hs hE) ps _ a w.drew (closedL_none _) h1 h5
    (fun p hp i hi j _ hSj => List.all_eq_true.1 (List.all_eq_true.1 (List.all_eq_true.1 h7 p hp) i hi) j (by simpa using hSj)) h8 (h _ ((Below.refl _ _).drew))
  refine wp_region_any hm ?_
  rw [h4] at H
  exact wpC.any _ _ _ _ H
end
end Go.Proofs.YtnedcclmfokdnaaGreat
