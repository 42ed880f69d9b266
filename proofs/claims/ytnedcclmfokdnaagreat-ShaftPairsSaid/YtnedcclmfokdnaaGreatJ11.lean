/- Texts joined: Gen Built. -/
import Derived.Test.YtnedcclmfokdnaaGreatJ4
import Derived.Lib.SmallJoins
import Derived.Laws.Tables
namespace Go.Proofs.YtnedcclmfokdnaaGreat
open Go.RowKit
theorem put2 {w : World} {b : Nat} {t : TypeId} {p q : Value} (x y : Value) (h : w.heap[b]? = some (.cells #[p, q] t)) :
    ((w.setCell ⟨b, 0, none⟩ x).setCell ⟨b, 1, none⟩ y).cell? ⟨b, 0, none⟩ = some x ∧ ((w.setCell ⟨b, 0, none⟩ x).setCell ⟨b, 1, none⟩ y).cell? ⟨b, 1, none⟩ = some y := by
  have h1 := Joins.cell_of_block (Joins.block_setCell (i := 1) (Joins.block_setCell (i := 0) h x) y)
  have a := h1 0
  have b := h1 1
  simp at a b
  exact ⟨a, b⟩
theorem size_of_block {w : World} {b : Nat} {o : Obj} (h : w.heap[b]? = some o) : b < w.heap.size := (Array.getElem?_eq_some_iff.1 h).1
theorem own_form {w : World} {base : Nat} {e : TypeId} {s : Nat} {v : Value} {n : Nat} {xs : List Value} (h : w.ownsRow base e s v n xs) : ∃ A cap, v = .slice A n cap := by
  rcases h.2 with ⟨rfl, h0⟩ | ⟨g, cap, cur, rfl, _⟩
  · exact ⟨none, 0, by rw [h0]⟩
  · exact ⟨_, cap, rfl⟩
theorem two_new' (w : World) (o0 o1 : Obj) : ((w.alloc o0).alloc o1).heap[w.heap.size]? = some o0 ∧ ((w.alloc o0).alloc o1).heap[w.heap.size + 1]? = some o1 ∧ ((w.alloc o0).alloc o1).heap.size = w.heap.size + 2 ∧ Below w.heap.size w ((w.alloc o0).alloc o1) := by
  have a := heap_alloc_new w o0
  have b := heap_alloc_new (w.alloc o0) o1
  have k1 := below_alloc (w.alloc o0) o1
  simp only [World.size_alloc] at b k1
  refine ⟨?_, b, by simp only [World.size_alloc], below_then (below_alloc w o0) (below_alloc _ o1)⟩
  rw [k1.block _ (by omega)]; exact a
theorem own_ne_block {w : World} {base n sz g : Nat} {e t : TypeId} {v : Value} {xs : List Value} {cs : Array Value} (h : w.ownsRow base e sz v n xs) (hg : w.heap[g]? = some (.cells cs t)) (hne : e ≠ t) : v.ownBlock ≠ some g := by
  intro hk
  rcases h.2 with ⟨rfl, _⟩ | ⟨gd, cap, cur, rfl, _, hc, _⟩
  · simp [Value.ownBlock] at hk
  · simp only [Value.ownBlock, Option.some.injEq] at hk
    subst hk
    rw [hg] at hc
    simp at hc
    exact hne hc.2.symm
theorem own_setCell {w : World} {base n sz g : Nat} {e : TypeId} {v : Value} {xs : List Value} (h : w.ownsRow base e sz v n xs) (i : Nat) (u : Value) (hne : v.ownBlock ≠ some g) : (w.setCell ⟨g, i, none⟩ u).ownsRow base e sz v n xs := by
  refine ⟨h.1, ?_⟩
  rcases h.2 with h0 | ⟨gd, cap, cur, rfl, hb, hc, rest⟩
  · exact .inl h0
  · exact .inr ⟨gd, cap, cur, rfl, hb, (Below.heap_setCell w ⟨g, i, none⟩ u gd (fun e => hne (by rw [Value.ownBlock, e]))).trans hc, rest⟩
theorem own_apart {w : World} {B B' e e' s s' n n' g : Nat} {v v' : Value} {xs xs' : List Value} (h : w.ownsRow B e s v n xs) (h' : w.ownsRow B' e' s' v' n' xs') (hv : v.ownBlock = some g) (he : e ≠ e') : v'.ownBlock ≠ some g := by
  intro hv'
  rcases h.2 with ⟨rfl, _⟩ | ⟨g1, c1, cur1, rfl, _, hh, _⟩
  · simp [Value.ownBlock] at hv
  · rcases h'.2 with ⟨rfl, _⟩ | ⟨g2, c2, cur2, rfl, _, hh', _⟩
    · simp [Value.ownBlock] at hv'
    · simp only [Value.ownBlock, Option.some.injEq] at hv hv'
      subst hv; subst hv'
      rw [hh] at hh'
      simp only [Option.some.injEq, Obj.cells.injEq] at hh'
      exact he hh'.2.1
theorem own_below {w w' : World} {base n sz : Nat} {e : TypeId} {v : Value} {xs : List Value} (h : w.ownsRow base e sz v n xs) (hf : Below w.heap.size w w') : w'.ownsRow base e sz v n xs := own_later h hf
theorem below_set {B g i : Nat} {W w : World} {v : Value} (h : Below B W w) (hg : B ≤ g) : Below B W (w.setCell ⟨g, i, none⟩ v) := h.setCell (p := ⟨g, i, none⟩) hg v
theorem three_new (w : World) (o0 o1 o2 : Obj) : (((w.alloc o0).alloc o1).alloc o2).heap[w.heap.size]? = some o0 ∧ (((w.alloc o0).alloc o1).alloc o2).heap[w.heap.size + 1]? = some o1 ∧ (((w.alloc o0).alloc o1).alloc o2).heap[w.heap.size + 1 + 1]? = some o2 ∧ (((w.alloc o0).alloc o1).alloc o2).heap.size = w.heap.size + 1 + 1 + 1 ∧ Below w.heap.size w (((w.alloc o0).alloc o1).alloc o2) := by
  have h2 := below_then (below_then (below_alloc w o0) (below_alloc _ o1)) (below_alloc _ o2)
  refine ⟨?_, ?_, ?_, by simp, h2⟩
  · rw [Below.heap_alloc _ _ _ (by simp; omega), Below.heap_alloc _ _ _ (by simp)]; exact heap_alloc_new w o0
  · rw [Below.heap_alloc _ _ _ (by simp)]; have := heap_alloc_new (w.alloc o0) o1; simpa using this
  · have := heap_alloc_new ((w.alloc o0).alloc o1) o2; simpa using this
theorem Sl.setRow {α : Type} {c : α → List Value} {s : Nat} {w : World} {B g : Nat} {v : Value} {l : List α} (h : Sl c s w B v l) (hg : v.ownBlock ≠ some g) (cs : Array Value) : Sl c s (w.setRow g cs) B v l := by
  obtain ⟨A, cap, e, h1, h2, h3⟩ := h
  refine ⟨A, cap, e, h1, h2, fun hn => ?_⟩
  obtain ⟨b, off, e2, hb, hc⟩ := h3 hn
  refine ⟨b, off, e2, hb, fun i x hx j u hu => (cell_setRow_other w g cs _ ?_).trans (hc i x hx j u hu)⟩
  intro hbg
  apply hg
  rw [e, e2]
  simp only at hbg
  subst hbg
  rfl
theorem put_other {w : World} {b i k : Nat} (v : Value) (h : k ≠ b) : (w.setCell ⟨b, i, none⟩ v).heap[k]? = w.heap[k]? := Below.heap_setCell w ⟨b, i, none⟩ v k h
end Go.Proofs.YtnedcclmfokdnaaGreat
namespace Go.Proofs.YtnedcclmfokdnaaGreat
open Go Go.RowKit
theorem builtL {α : Type} {c : α → List Value} {s : Nat} (hc : ∀ x, (c x).length = s) (w : World) (l : List α) (t : TypeId) (cs : Array Value) (g n : Nat) (hcs : cs = (l.flatMap c).toArray) (hl : l.length ≤ 140737488355328) (hg : g = w.heap.size) (hn : n = l.length) :
    Sl c s (w.alloc (.cells cs t)) (w.alloc (.cells cs t)).heap.size (.slice (some ⟨g, 0, none⟩) n n) l := by
  subst hg hn
  refine ⟨_, _, rfl, Nat.le_refl _, hl, fun _ => ⟨w.heap.size, 0, rfl, by simp, fun i x hx j u hu => ?_⟩⟩
  rw [World.cell?_alloc_mark w cs t (0, 0) _, hcs]
  simpa using flat_at hc l i x j u hx hu
end Go.Proofs.YtnedcclmfokdnaaGreat
