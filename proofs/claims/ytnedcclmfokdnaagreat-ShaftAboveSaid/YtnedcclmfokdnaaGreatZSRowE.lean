import Derived.Test.YtnedcclmfokdnaaGreatJ10
import Derived.Laws.Rows
import Derived.TacticsIn
import Derived.Great.BuildSlice
import Derived.Test.YtnedcclmfokdnaaGreatJ21
namespace Go.Proofs.YtnedcclmfokdnaaGreat
open Go Go.RowKit
theorem wpListIn_store_rowTo {F : Fence} {n : Nat} {P : Program} {ops : Array Oper} {rest : List Oper} {o : Oper} {a : Act} {w : World} {Q : Exit → Act → World → Prop} (hgd : o.guard = none) (ty : TypeId) (x y : Operand) (ho : o.op = .store ty x y)
    (hd : o.dst = none) (g : Nat) (cells : Array Value) (hx : a.eval x = .pointer (some ⟨g, 0, none⟩)) (hy : a.eval y = .agg cells)
    (t : TypeId) (old : Array Value) (hg : w.heap[g]? = some (.cells old t (0, 0))) (hi : (P.info? ty).map (·.size) = some cells.size)
    (hold : old.size = cells.size) (h1 : cells.all (·.oneCell') = true)
    (h : wpListIn F n P ops Q rest a (w.setRow g cells)) : wpListIn F n P ops Q (o :: rest) a w := by
  refine wpListIn_plain hgd fun K hK => ?_
  have hk : K (a.put o.dst undef) (w.setRow g cells) := by rw [hd]; exact hK _ _ h
  have e : (execOp a.eval o).run P w = .ok .skip (w.setRow g cells) := by
    unfold execOp
    simp only [ho, hx, hy, Instr.storeAt, Instr.sureAddr, Sem.run_bind, Sem.run_pure, Result.andThen_ok, run_storeVar_row w g t ty old cells hg hi hold h1]
  have e2 : Oper.semAt F.round a.eval o = execOp a.eval o := by
    cases F.round <;> simp [Oper.semAt, ho]
  refine ⟨fun f hf => by simp [Oper.about, ho] at hf, ?_⟩
  rw [e2, e]
  exact hk
end Go.Proofs.YtnedcclmfokdnaaGreat
