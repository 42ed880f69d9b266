/- Texts joined: GenIt. -/
import Derived.RangeFuncBox
import Derived.Test.YtnedcclmfokdnaaGreatJ11
import Derived.Test.YtnedcclmfokdnaaGreatJ10
namespace Go.Proofs.YtnedcclmfokdnaaGreat
open Go Go.RowKit Go.Shelf
def Tells {α : Type} (P : Program) (v : Value) (enc : α → Value) (xs : List α) (g : α → Value) (w : World) : Prop :=
  ∃ (gf : Nat) (bs lb : Array Value), v = .func (.func gf) bs lb ∧ (∀ args w, (callFunc gf args).run P w = .ok (.enter gf args) w) ∧
    ∀ (x : α) (W : World), x ∈ xs → Below w.heap.size w W → Calls P gf (bs ++ #[enc x] ++ lb) W fun e W' => e = .returned (g x) ∧ Below W.heap.size W W'
theorem Tells.later {α : Type} {P : Program} {v : Value} {enc : α → Value} {xs : List α} {g : α → Value} {w w' : World} (h : Tells P v enc xs g w) (hb : Below w.heap.size w w') : Tells P v enc xs g w' := by
  obtain ⟨gf, bs, lb, e1, e2, hg⟩ := h
  exact ⟨gf, bs, lb, e1, e2, fun x W hx hW => hg x W hx (below_then hb hW)⟩
theorem own_cells {β : Type} (B r : Nat) (f : β → Obj) (hc : ∀ s, (f s).isCells = true) : OwnFrom B (fun s W => W.heap[r]? = some (f s)) := fun s X Y row hs hg hrow =>
  (hg.block r (Array.getElem?_eq_some_iff.1 hs).1 (fun e => by obtain ⟨_, o, ho, hn⟩ := hrow r e.symm; rw [hs] at ho; cases ho; rw [hc] at hn; cases hn)).trans hs
theorem keeps_of_below {B : Nat} {W W' : World} (h : Below W.heap.size W W') : KeepsFrom B W W' := ⟨h.size, fun k _ _ hk _ => (h.block k (Array.getElem?_eq_some_iff.1 hk).1).trans hk⟩
theorem kp_appended {W w1 : World} {n₀ n₁ Bx B : Nat} {t e : TypeId} {size : Nat} {v v' : Value} {k m : Nat} {xs ys : List Value} {tmp : Obj} {U : List TypeId}
    (hv : Go.Boxed W Bx t v) (hte : t ≠ e) (hrow : W.ownsRow n₁ e size v k xs) (hn₁ : n₁ ≤ W.heap.size) (hB : n₁ ≤ Bx)
    (hown' : w1.ownsRow n₁ e size v' m ys) (hgrow : (W.alloc tmp).grownBy w1 v.ownBlock) (hn : n₀ ≤ n₁) (ht : t ∉ U) (he : e ∉ U) : Kp n₀ B U W (w1.setCell ⟨Bx, 0, none⟩ v') := by
  obtain ⟨_, _, _, _, hb⟩ := Go.Boxed.appended hv hte hrow hn₁ hB hown' hgrow
  refine ⟨hb.mono hn, fun j cs ty fr hj hx hu => ?_⟩
  have hjl := (Array.getElem?_eq_some_iff.1 hx).1
  have h1 : (W.alloc tmp).heap[j]? = some (.cells cs ty fr) := (Below.heap_alloc W tmp j hjl).trans hx
  have h2 : w1.heap[j]? = some (.cells cs ty fr) := (hgrow.block j (Array.getElem?_eq_some_iff.1 h1).1 (fun e' => by
    rcases hrow.2 with ⟨rfl, _⟩ | ⟨g, cap, cur, rfl, _, hg, _⟩
    · simp [Value.ownBlock] at e'
    · obtain rfl : g = j := by simpa [Value.ownBlock] using e'.symm
      rw [hg] at hx; cases hx; exact he hu)).trans h1
  refine (Below.heap_setCell w1 _ v' j (fun e' => ?_)).trans h2
  simp only at e'
  subst e'
  have : W.heap[j]? = some (.cells #[v] t (0, 0)) := hv
  rw [this] at hx; cases hx; exact ht hu
theorem own_grown {β : Type} {B : Nat} {I : β → World → Prop} (h : OwnFrom B I) {s : β} {w w' : World} (hs : I s w) (hb : Below w.heap.size w w') : I s w' :=
  h s w w' none hs ⟨hb.os, hb.tape, hb.output, hb.size, fun k hk _ => hb.block k hk⟩ (fun _ e => by cases e)
theorem own_comp {β γ : Type} {B : Nat} {I : β → World → Prop} (h : OwnFrom B I) (f : γ → β) : OwnFrom B (fun s W => I (f s) W) := fun s X Y row hs hg hr => h (f s) X Y row hs hg hr
theorem own_kp {β : Type} {n₀ B B' : Nat} {U : List TypeId} {w₀ : World} (hn : n₀ ≤ w₀.heap.size) (hB : n₀ ≤ B') : OwnFrom B' (fun (_ : β) W => Kp n₀ B U w₀ W) := fun _ X Y row hs hg hr =>
  ⟨hs.b.grown hg (Nat.le_trans hn hs.b.size) (fun k e => Nat.le_trans hB (hr k e).1), fun k cs ty fr hk hx hu => by
    have h1 := hs.t k cs ty fr hk hx hu
    exact (hg.block k (Array.getElem?_eq_some_iff.1 h1).1 (fun e => by obtain ⟨_, o, ho, hc⟩ := hr k e.symm; rw [h1] at ho; cases ho; cases hc)).trans h1⟩
end Go.Proofs.YtnedcclmfokdnaaGreat
