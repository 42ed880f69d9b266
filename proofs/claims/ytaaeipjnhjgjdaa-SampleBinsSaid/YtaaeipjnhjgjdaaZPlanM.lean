/- A region that draws its order, as in PlanP, with moves that may come at any time and that nothing but the closing operations wants: they are taken first. No program is named here. -/
import Derived.Test.YtaaeipjnhjgjdaaJ14
namespace Go.Proofs.Ytaaeipjnhjgjdaa
open Go Go.RowKit Go.Shelf

section
variable {P : Program} {ops : Array Oper} {w0 : World} {S : Nat → Bool} {Q : Exit → Act → World → Prop}
theorem wpC.congr {S' : Nat → Bool} : ∀ (f : Nat) (listed : Array Bool) (a : Act) (w : World), (∀ j, listed.getD j true = false → S j = S' j) → wpC P ops w0 S Q f listed a w → wpC P ops w0 S' Q f listed a w
  | 0, _, _, _, _, h => h
  | f + 1, listed, a, w, hS, h => by
    refine ⟨h.1, fun j hj => ?_⟩
    have hun := (mem_ready.1 hj).1
    have step : ∀ a' w', wpC P ops w0 S Q f (listed.setIfInBounds j true) a' w' → wpC P ops w0 S' Q f (listed.setIfInBounds j true) a' w' := fun a' w' h' =>
      wpC.congr f _ a' w' (fun k hk => hS k (by
        by_cases e : j = k
        · subst e; exact hun
        · rw [getD_set_ne true e] at hk; exact hk)) h'
    refine wpOp_mono (fun a' w' hb => ?_) (h.2 j hj)
    rw [← hS j hun]
    cases hs : S j with
    | true => rw [hs] at hb; exact step a' w' hb
    | false => rw [hs] at hb; exact (show Boxed w0 _ a' w' from ⟨hb.1, fun u hu => step a' u (hb.2 u hu)⟩)
theorem closedL_sets : ∀ (ms : List Nat) (listed : Array Bool), closedL ops listed → firstB ops ms listed = true → closedL ops (setsL ms listed)
  | [], _, h, _ => h
  | m :: ms, listed, h, hB => by
    simp only [firstB, Bool.and_eq_true] at hB
    exact closedL_sets ms _ (h.set (by simpa using hB.1.1)) hB.2
theorem setsL_keep : ∀ (ms : List Nat) (listed : Array Bool) (j : Nat), (setsL ms listed).getD j true = false → listed.getD j true = false
  | [], _, _, h => h
  | m :: ms, listed, j, h => by
    have := setsL_keep ms _ j h
    by_cases e : m = j
    · subst e
      by_cases hl : m < listed.size
      · simp [hl] at this
      · simp at this
    · rw [getD_set_ne true e] at this; exact this
theorem setsL_out : ∀ (ms : List Nat) (listed : Array Bool) (j : Nat), (setsL ms listed).getD j true = false → j ∉ ms
  | [], _, _, _ => by simp
  | m :: ms, listed, j, h => by
    intro hj
    rcases List.mem_cons.1 hj with rfl | hj
    · have := setsL_keep ms _ j h
      by_cases hl : j < listed.size
      · simp [hl] at this
      · simp at this
    · exact setsL_out ms _ j h hj
def planTM (ops : Array Oper) (i : Nat) (ms : List Nat) (ps : List Stp) (is cs : List Nat) : Bool :=
  Region.noSelect ops && (ps.all fun p => p.is.all fun i => decide (i < ops.size)) && (cs.all fun i => decide (i < ops.size)) && (is.all fun i => decide (i < ops.size)) && decide (ms.length + (lenP ps + (is.length + cs.length + 1)) = ops.size) &&
    (ps.all fun p => p.is.all fun i => !(is ++ cs).contains i) && (ps.all fun p => p.is.all fun i => (is ++ cs).all fun j => waitsT ops i ops.size j) && !(is ++ cs).contains i && planBAG ops (endP ops is cs) (endPA ops i is cs) i ps (setsL ms (Array.replicate ops.size false)) &&
    (ms.all fun i => decide (i < ops.size)) && firstB ops ms (Array.replicate ops.size false)
theorem wp_region_planM {id : Nat} {a : Act} {w : World} {l : List Oper} (i : Nat) (ms : List Nat) (ps : List Stp) (is cs : List Nat) (hm : P.follows .mixedOrders = true) (hB : planTM l.toArray i ms ps is cs = true) (hQ : ∀ c a d v w, Q (.panic c) (Act.put a d v) w → Q (.panic c) a w)
    (h : wpPure P (fun a => ∀ u, Below w.heap.size w u → wpPlanAG P l.toArray Q (fun a w => wpPure P (fun a' => wpList P l.toArray Q (pick l.toArray cs) a' w) (pick l.toArray is) a)
      (fun a w => wpPure P (fun a' => ∃ o, l.toArray[i]? = some o ∧ o.guard = none ∧ o.wp P a' w (Boxed w (wpList P l.toArray Q (pick l.toArray cs))) Q) (pick l.toArray is) a) i ps a u) (pick l.toArray ms) a) : (Code.region id l.toArray true).wp P Q a w := by
  simp only [planTM, Bool.and_eq_true, decide_eq_true_eq] at hB
  obtain ⟨⟨⟨⟨⟨⟨⟨⟨⟨⟨hns, h1⟩, h3⟩, h31⟩, h4⟩, h5⟩, h7⟩, h6⟩, h8⟩, m1⟩, m2⟩ := hB
  have hc : cs.all (fun i => (is ++ cs).contains i) = true := by simp; exact fun x hx => .inr hx
  have hc2 : is.all (fun i => (is ++ cs).contains i) = true := by simp; exact fun x hx => .inl hx
  have hSi : (is ++ cs).contains i = false := by simpa using h6
  have H := fun (a : Act) => wpC.planAG (P := P) (S := fun i => (is ++ cs).contains i) (i := i) (n := is.length + cs.length) (E := fun a w => wpPure P (fun a' => wpList P l.toArray Q (pick l.toArray cs) a' w) (pick l.toArray is) a)
    (EA := fun a w => wpPure P (fun a' => ∃ o, l.toArray[i]? = some o ∧ o.guard = none ∧ o.wp P a' w (Boxed w (wpList P l.toArray Q (pick l.toArray cs))) Q) (pick l.toArray is) a) hns hQ hSi
    (fun listed a' w' hs hE => by
      simp only [endP, Bool.and_eq_true] at hs
      exact wpC.pures hns hQ w' is listed a' h31 hc2 hs.1 (fun a2 hE2 => wpC.close cs _ a2 w' h3 hc hs.2 hE2) hE)
    (fun listed a' w' hs hE => by
      simp only [endPA, Bool.and_eq_true, decide_eq_true_eq] at hs
      rw [Nat.add_assoc]
      refine wpC.pures hns hQ w' is listed a' h31 hc2 hs.1.1 (fun a2 hE2 => ?_) hE
      obtain ⟨o, ho, hg, hx⟩ := hE2
      refine ⟨fun h1 => (by rw [hs.1.2] at h1; cases h1), fun j hj => ?_⟩
      rw [hs.1.2] at hj
      obtain rfl : j = i := by simpa using hj
      show wpOp P _ Q j (BoxS ((is ++ cs).contains j) w' _) a2 w'
      rw [hSi]
      unfold wpOp
      simp only [ho, Region.wanted, hg, if_true]
      refine .inl (Oper.wp_mono (fun a3 w3 hb => ?_) hx)
      exact (show Boxed w' _ a3 w3 from ⟨hb.1, fun u hu => wpC.close cs _ a3 u h3 hc hs.2 (hb.2 u hu)⟩))
    ps (setsL ms (Array.replicate l.toArray.size false)) a w.drew (closedL_sets ms _ (closedL_none _) m2) h1 h5
    (fun p hp i hi j _ hSj => List.all_eq_true.1 (List.all_eq_true.1 (List.all_eq_true.1 h7 p hp) i hi) j (by simpa using hSj)) h8
  have H2 := wpC.pures (P := P) (S := fun i => (ms ++ (is ++ cs)).contains i) (w0 := w.drew) (Q := Q) (g := lenP ps + (is.length + cs.length + 1)) hns hQ w.drew ms (Array.replicate l.toArray.size false) a m1 (by simp; exact fun x hx => .inl hx) m2
    (fun a' hD => wpC.congr _ _ a' _ (fun j hj => by
      have := setsL_out ms _ j hj
      simp [this]) (H a' (hD _ ((Below.refl _ _).drew)))) h
  refine wp_region_any hm ?_
  rw [h4] at H2
  exact wpC.any _ _ _ _ H2
end
end Go.Proofs.Ytaaeipjnhjgjdaa
