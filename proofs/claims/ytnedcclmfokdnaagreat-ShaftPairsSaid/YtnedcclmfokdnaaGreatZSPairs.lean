/- ShaftPairs: the walk (written by tools/genspairsl.py). -/
import Derived.Test.YtnedcclmfokdnaaGreatJ27
import Derived.Test.YtnedcclmfokdnaaGreatJ25
import Derived.Test.YtnedcclmfokdnaaGreatZSRefSo
import Derived.Test.YtnedcclmfokdnaaGreatZSPairsA
import Derived.Test.YtnedcclmfokdnaaGreatZSPairsB
namespace Go.Proofs.YtnedcclmfokdnaaGreat
open Go Go.RowKit Go.Shelf
attribute [local go_sem] Oper.semAt_some Rel RelAt RelUpon

theorem ShaftPairs_w (rm pr : Int) (A1 : Option Addr) (n1 c1 : Nat) (A2 : Option Addr) (n2 c2 : Nat) (A3 : Option Addr) (n3 c3 : Nat) (d l : Int) (w : World)
    (hk : (∃ k : Kl, k.room = rm ∧ k.per = pr ∧ k.ls.length = n1 ∧ k.ds.length = n2 ∧ k.ws.length = n3 ∧ Kiln w (.agg #[.int .i64 rm, .int .i64 pr, .slice A1 n1 c1, .slice A2 n2 c2, .slice A3 n3 c3]) k) ∨ 140737488355328 < n1 ∨ 140737488355328 < n2 ∨ 140737488355328 < n3) :
    Calls Tryz.prog 8 #[.agg #[.int .i64 rm, .int .i64 pr, .slice A1 n1 c1, .slice A2 n2 c2, .slice A3 n3 c3], .int .i64 d, .int .i64 l] w fun e w' => e = .returned (.bool true) ∧ Below w.heap.size w w' := by
  rcases kiln_arg hk with h | ⟨hf, k, rfl, rfl, rfl, rfl, rfl, hk⟩
  · exact SPairs_no rm pr A1 n1 c1 A2 n2 c2 A3 n3 c3 d l w h
  · by_cases g1 : 4 < k.ls.length ∧ k.ls.length ≤ 6
    · exact SPairs_skip1 k A1 A2 A3 c1 c2 c3 d l w hk hf g1
    · by_cases g2 : 4 < k.ds.length ∧ k.ds.length ≤ 6
      · exact SPairs_skip2 k A1 A2 A3 c1 c2 c3 d l w hk hf g2
      · by_cases h3 : k.ws.length = 5
        · by_cases h1 : k.ls.length ≤ 4
          · by_cases h2 : k.ds.length ≤ 4
            · exact SPairs_s00 k A1 A2 A3 c1 c2 c3 d l w hk hf h1 h2 h3
            · exact SPairs_s01 k A1 A2 A3 c1 c2 c3 d l w hk hf h1 (by omega) h3
          · by_cases h2 : k.ds.length ≤ 4
            · exact SPairs_s10 k A1 A2 A3 c1 c2 c3 d l w hk hf (by omega) h2 h3
            · exact SPairs_s11 k A1 A2 A3 c1 c2 c3 d l w hk hf (by omega) (by omega) h3
        · by_cases h1 : k.ls.length ≤ 4
          · by_cases h2 : k.ds.length ≤ 4
            · exact SPairs_m00 k A1 A2 A3 c1 c2 c3 d l w hk hf h1 h2 h3
            · exact SPairs_m01 k A1 A2 A3 c1 c2 c3 d l w hk hf h1 (by omega) h3
          · by_cases h2 : k.ds.length ≤ 4
            · exact SPairs_m10 k A1 A2 A3 c1 c2 c3 d l w hk hf (by omega) h2 h3
            · exact SPairs_m11 k A1 A2 A3 c1 c2 c3 d l w hk hf (by omega) (by omega) h3
end Go.Proofs.YtnedcclmfokdnaaGreat
