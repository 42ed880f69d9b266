import Derived.Test.YtnedcclmfokdnaaGreatJ8
import Derived.Test.YtnedcclmfokdnaaGreatJ25
import Derived.Test.YtnedcclmfokdnaaGreatJ27
import Derived.Test.YtnedcclmfokdnaaGreatZSChkAboveE
namespace Go.Proofs.YtnedcclmfokdnaaGreat
open Go.RowKit
theorem above_accepts {k : Kl} {fr to m : Int} {pp tl td : List Int} (hc : checkI k = 0) (hm : marksI k fr to = 0) (hf : 0 ≤ fr ∧ fr < marksN k) (ht : 0 ≤ to ∧ to < marksN k) (h : AboveIs k fr to m pp tl td) : aboveC k fr to m pp tl td = 0 := by
  obtain ⟨h1, h2, h3, h4⟩ := above_facts (right_of_check hc) hf ht h
  unfold aboveC
  rw [if_neg (by rw [hm]; simp), if_neg (by omega), if_pos ⟨h1, fitsB_iff.2 ⟨hc, h3⟩, h4⟩]
end Go.Proofs.YtnedcclmfokdnaaGreat

namespace Go.Proofs.YtnedcclmfokdnaaGreat
open Go Go.RowKit Go.Shelf
theorem CheckAbove_d (k : Kl) (v : Value) (A0 A1 A2 : Option Addr) (n0 c0 n1 c1 n2 c2 : Nat) (fr to m : Int) (p tl td : List Int) (w : World) (hv : Kiln w v k) (hp : Ints w w.heap.size (.slice A0 n0 c0) p) (ht : Truth w (.agg #[.slice A1 n1 c1, .slice A2 n2 c2]) tl td) :
    Calls Tryz.prog 34 #[v, .int .i64 fr, .int .i64 to, .agg #[.int .i64 m, .slice A0 n0 c0, .slice A1 n1 c1, .slice A2 n2 c2]] w fun e w' => e = .returned (.int .i64 (aboveC k fr to m p tl td)) ∧ Below w.heap.size w w' := by
  obtain ⟨t1, t2, he, hc⟩ := CheckAbove_c k v (.slice A0 n0 c0) (.agg #[.slice A1 n1 c1, .slice A2 n2 c2]) fr to m p tl td w hv hp ht
  obtain ⟨rfl, rfl⟩ : .slice A1 n1 c1 = t1 ∧ .slice A2 n2 c2 = t2 := by simpa using he
  exact hc
end Go.Proofs.YtnedcclmfokdnaaGreat
