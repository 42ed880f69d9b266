import Derived.Test.YtnedcclmfokdnaaGreatJ3
namespace Go.Proofs.YtnedcclmfokdnaaGreat
open Go.RowKit
theorem marks_c (k : Kl) (v : Value) (w : World) (hv : Kiln w v k) :
    Calls Tryz.prog 94 #[v] w fun e w' => e = .returned (.int .i64 (k.ls.length + k.ds.length + 1)) ∧ Below w.heap.size w w' := by
  obtain ⟨vl, vd, vw, rfl, hl, hd, _⟩ := id hv
  obtain ⟨A, cap, rfl, _, hn, _⟩ := hl.open_
  obtain ⟨A2, cap2, rfl, _, hn2, _⟩ := hd.open_
  go_enter Tryz.func94, Tryz.ntmps94
  go_wp2
  go_ret
  exact ⟨rfl, below_alloc _ _⟩
end Go.Proofs.YtnedcclmfokdnaaGreat
