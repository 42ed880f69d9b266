/- Reads of a drawn region, one after the other, where operations may be guarded: the goal is wrapped, so that nothing is reckoned before it is asked. No program is named here. -/
import Derived.Test.YtpgepfbdjefmdaaGreatZPlanG
namespace Go.Proofs.YtpgepfbdjefmdaaGreat
open Go Go.RowKit

section
variable {P : Program} {ops : Array Oper} {w0 : World} {Q : Exit → Act → World → Prop}
structure WR (P : Program) (ops : Array Oper) (w0 : World) (D : Act → Prop) (os : List Oper) (a : Act) : Prop where
  out : wpRel P ops w0 D os a
theorem WR.nil {D : Act → Prop} {a : Act} (h : D a) : WR P ops w0 D [] a := ⟨h⟩
theorem WR.val {D : Act → Prop} {a : Act} {o : Oper} {rest : List Oper} (v : Value) (hw : Region.wanted o (yielded ops a.tmps) = true) (hv : ∀ g : Gr w0, (execOp a.eval o).run P g.val = .ok (.value v) g.val)
    (h : WR P ops w0 D rest (a.put o.dst v)) : WR P ops w0 D (o :: rest) a := ⟨wpRel_val v hw hv h.out⟩
theorem WR.pass {D : Act → Prop} {a : Act} {o : Oper} {rest : List Oper} (hw : Region.wanted o (yielded ops a.tmps) = false) (h : WR P ops w0 D rest (a.put o.dst undef)) : WR P ops w0 D (o :: rest) a := ⟨wpRel_pass hw h.out⟩
theorem WR.step {D : Act → Prop} {a : Act} {o : Oper} {rest : List Oper} (hw : Region.wanted o (yielded ops a.tmps) = true)
    (h : ∀ K : Act → Prop, (∀ a, WR P ops w0 D rest a → K a) → Rel P w0 o a K) : WR P ops w0 D (o :: rest) a := by
  constructor
  unfold wpRel
  rw [if_pos hw]
  exact h _ fun a h => h.out
theorem wpPlanW_r {E : Act → World → Prop} {is : List Nat} {ps : List Stp} {a : Act} {w : World} (h : WR P ops w (fun a' => ∀ u, Below w.heap.size w u → wpPlanW P ops Q E ps a' u) (pick ops is) a) : wpPlanW P ops Q E (.f is :: ps) a w := h.out
end
end Go.Proofs.YtpgepfbdjefmdaaGreat
