import Derived.Test.YtpgepfbdjefmdaaGreatJ27
import Derived.Test.YtpgepfbdjefmdaaGreatZSChkAboveE
namespace Go.Proofs.YtpgepfbdjefmdaaGreat
open Go Go.RowKit Go.Shelf
theorem CheckAbove_d (k : Kl) (v : Value) (A0 A1 A2 : Option Addr) (n0 c0 n1 c1 n2 c2 : Nat) (fr to m : Int) (p tl td : List Int) (w : World) (hv : Kiln w v k) (hp : Ints w w.heap.size (.slice A0 n0 c0) p) (ht : Truth w (.agg #[.slice A1 n1 c1, .slice A2 n2 c2]) tl td) :
    Calls Tryz.prog 34 #[v, .int .i64 fr, .int .i64 to, .agg #[.int .i64 m, .slice A0 n0 c0, .slice A1 n1 c1, .slice A2 n2 c2]] w fun e w' => e = .returned (.int .i64 (aboveC k fr to m p tl td)) ∧ Below w.heap.size w w' := by
  obtain ⟨t1, t2, he, hc⟩ := CheckAbove_c k v (.slice A0 n0 c0) (.agg #[.slice A1 n1 c1, .slice A2 n2 c2]) fr to m p tl td w hv hp ht
  obtain ⟨rfl, rfl⟩ : .slice A1 n1 c1 = t1 ∧ .slice A2 n2 c2 = t2 := by simpa using he
  exact hc
end Go.Proofs.YtpgepfbdjefmdaaGreat
