import Derived.Test.YtnedcclmfokdnaaGreatJ9
import Derived.Test.YtnedcclmfokdnaaGreatJ4
import Derived.OrdersIn
import Derived.Test.YtnedcclmfokdnaaGreatJ10
namespace Go.Proofs.YtnedcclmfokdnaaGreat
open Go Go.RowKit
section
variable {P : Program} {ops : Array Oper} {C : World → Prop} {Q : Exit → Act → World → Prop} {r : Option Nat} {n : Nat}
theorem wpAnyIn_of_quiet {D : Act → Prop} (hd : noDefer ops = true) (hQ : ∀ a w, C w → D a → Q .normal a w) : ∀ (f : Nat) (listed : Array Bool) (a : Act) (w : World), C w → wpAnyQ P .any ops C D f listed a → wpAnyIn (Fr r) n P .any ops Q f listed a w
  | 0, _, _, _, hw, h => ⟨h.1, hQ _ _ hw h.2⟩
  | f + 1, _, _, _, hw, h => ⟨fun h0 => hQ _ _ hw (h.1 h0), fun i hi => wpOpIn_of_quiet hd hw (fun a' w' hw' => wpAnyIn_of_quiet hd hQ f _ a' w' hw') (h.2 i hi)⟩
theorem wpIn_region_grown {id : Nat} {a : Act} {w : World} {l : List Oper} (hm : P.follows .mixedOrders = true) (hB : (noDefer l.toArray && Region.lexB .any l.toArray) = true)
    (h : (∀ (g : Gr w) b o, b < w.heap.size → g.val.cell? ⟨b, o, none⟩ = w.cell? ⟨b, o, none⟩) →
      wpQuiet P l.toArray (fun w' => ∃ g : Gr w, w' = g.val) (fun a' => ∀ w', (∃ g : Gr w, w' = g.val) → Q .normal a' w') l a) : (Code.region id l.toArray true).wpIn (Fr r) n P Q a w := by
  simp only [Region.lexB, Bool.and_eq_true] at hB
  refine wpIn_region_any hm (wpAnyIn_of_quiet hB.1 (D := fun a' => ∀ w', (∃ g : Gr w, w' = g.val) → Q .normal a' w') (fun _ w' hw' h => h w' hw') _ _ _ _ ⟨⟨w.drew, (Below.refl _ _).drew⟩, rfl⟩ ?_)
  have := wpAnyQ_lex (C := fun w' => ∃ g : Gr w, w' = g.val) (md := .any) hB.2.1 l 0 (Array.replicate l.toArray.size false) a (by simp) (by simpa using hB.2.2) (h fun g b o h => g.b.cell (p := ⟨b, o, none⟩) h)
  simpa using this
end
end Go.Proofs.YtnedcclmfokdnaaGreat
