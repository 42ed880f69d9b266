/- Texts joined: SRowO. -/
import Derived.Test.YtnedcclmfokdnaaGreatRows
import Derived.Test.YtnedcclmfokdnaaGreatJ27
import Derived.Test.YtnedcclmfokdnaaGreatJ29
import Derived.WalkKit
import Derived.ProofKit
import Derived.OpenShut
namespace Go.Proofs.YtnedcclmfokdnaaGreat
open Go.ChangeShapes Go.WideShapes Go.ChangeAt Go.RowKit Go.Deep
theorem row_own : ownKnob Tryz.prog.godebug = none := by kernel_rfl
section
variable {H : Type} {enc : TypeId × Value → H} {w : World} {base b0 : Nat} {spare : Nat → Bool} {held : Bool} {r : Reach} {v : Value} {d : DataW H} {p : List MemPlace}
theorem sl_slice {α : Type} [Inhabited α] {c : α → List Value} {s : Nat} {u : Value} (h : (∃ l : List α, Sl c s w w.heap.size u l) ∨ ∃ A n cap, u = .slice A n cap ∧ 140737488355328 < n) : ∃ A n cap, u = .slice A n cap ∧ ((∃ l : List α, n = l.length ∧ Sl c s w w.heap.size u l) ∨ 140737488355328 < n) := by
  rcases h with ⟨l, hl⟩ | ⟨A, n, cap, rfl, hn⟩
  · obtain ⟨A, cap, rfl⟩ := Sl.form1 hl
    exact ⟨A, _, cap, rfl, .inl ⟨l, rfl, hl⟩⟩
  · exact ⟨A, n, cap, rfl, .inr hn⟩
instance : Inhabited Rec := ⟨⟨0, 0, 0, 0⟩⟩
instance : Inhabited Wg := ⟨⟨0, 0, 0, 0, 0, 0⟩⟩
set_option maxRecDepth 100000 in
theorem open_Kl (hval : Value.okWide Tryz.prog w r b0 26 v) (h : DataW.Trod enc Tryz.prog w base spare held 26 v d p) : ∃ (rm pr : Int) (A1 : Option Addr) (n1 c1 : Nat) (A2 : Option Addr) (n2 c2 : Nat) (A3 : Option Addr) (n3 c3 : Nat), v = .agg #[.int .i64 rm, .int .i64 pr, .slice A1 n1 c1, .slice A2 n2 c2, .slice A3 n3 c3] ∧
    ((∃ k : Kl, k.room = rm ∧ k.per = pr ∧ k.ls.length = n1 ∧ k.ds.length = n2 ∧ k.ws.length = n3 ∧ Kiln w v k) ∨ 140737488355328 < n1 ∨ 140737488355328 < n2 ∨ 140737488355328 < n3) := by
  have hu := Tryz.underlying26
  have hv : ∃ cs : List Value, v = .agg cs.toArray ∧ cs.length = Tryz.prog.cellsOf 26 := by
    unfold Value.okWide at hval
    split at hval
    · obtain ⟨cs, rfl, hc, _⟩ := hval
      exact ⟨cs.toList, by simp, by simpa using hc⟩
    · rename_i h2; rw [hu] at h2; cases h2
    · rename_i h1 h2; exact absurd hu (h1 _)
  obtain ⟨cs, rfl, hl⟩ := hv
  replace hl : cs.length = 5 := hl.trans (by kernel_rfl)
  obtain ⟨fuel, hf⟩ := h
  match cs, hl with
  | [c0, c1, c2, c3, c4], _ =>
    obtain ⟨xs, k, _, _, hl2, hx, hall⟩ := DataW.trod_struct hu hf
    have hxl : xs.length = 5 := by rw [hx]; rfl
    have e0 : Tryz.prog.cellsOf 3 = 1 := by kernel_rfl
    have e1 : Tryz.prog.cellsOf 3 = 1 := by kernel_rfl
    have e2 : Tryz.prog.cellsOf 22 = 1 := by kernel_rfl
    have e3 : Tryz.prog.cellsOf 23 = 1 := by kernel_rfl
    have e4 : Tryz.prog.cellsOf 24 = 1 := by kernel_rfl
    have h0 : DataW.trod enc Tryz.prog w base spare held k 3 (([c0, c1, c2, c3, c4].drop 0).take (Tryz.prog.cellsOf 3)) = some (xs[0]'(by omega)) := (hall 0 _ rfl).trans (List.getElem?_eq_getElem (by omega))
    rw [e0] at h0
    have h1 : DataW.trod enc Tryz.prog w base spare held k 3 (([c0, c1, c2, c3, c4].drop 1).take (Tryz.prog.cellsOf 3)) = some (xs[1]'(by omega)) := (hall 1 _ rfl).trans (List.getElem?_eq_getElem (by omega))
    rw [e1] at h1
    have h2 : DataW.trod enc Tryz.prog w base spare held k 22 (([c0, c1, c2, c3, c4].drop 2).take (Tryz.prog.cellsOf 22)) = some (xs[2]'(by omega)) := (hall 2 _ rfl).trans (List.getElem?_eq_getElem (by omega))
    rw [e2] at h2
    have h3 : DataW.trod enc Tryz.prog w base spare held k 23 (([c0, c1, c2, c3, c4].drop 3).take (Tryz.prog.cellsOf 23)) = some (xs[3]'(by omega)) := (hall 3 _ rfl).trans (List.getElem?_eq_getElem (by omega))
    rw [e3] at h3
    have h4 : DataW.trod enc Tryz.prog w base spare held k 24 (([c0, c1, c2, c3, c4].drop 4).take (Tryz.prog.cellsOf 24)) = some (xs[4]'(by omega)) := (hall 4 _ rfl).trans (List.getElem?_eq_getElem (by omega))
    rw [e4] at h4
    have ai : allInts Tryz.prog 1 3 = true := by kernel_rfl
    obtain ⟨x0, rfl, _⟩ := ints_of_trod 1 3 k _ _ ai h0 c0 (by simp)
    obtain ⟨x1, rfl, _⟩ := ints_of_trod 1 3 k _ _ ai h1 c1 (by simp)
    obtain ⟨u2, hu2, hs2⟩ := open_rowsT (α := Rec) (c := rC) (s := 4) 5 Tryz.underlying22 (by kernel_rfl) (by omega) (by kernel_rfl) (fun cs hl hi => by
      match cs, hl with
      | [y0, y1, y2, y3], _ =>
        obtain ⟨z0, rfl, _⟩ := hi y0 (by simp)
        obtain ⟨z1, rfl, _⟩ := hi y1 (by simp)
        obtain ⟨z2, rfl, _⟩ := hi y2 (by simp)
        obtain ⟨z3, rfl, _⟩ := hi y3 (by simp)
        exact ⟨⟨z0, z1, z2, z3⟩, rfl⟩) h2
    have e92 : c2 = u2 := by simpa using hu2
    subst e92
    obtain ⟨u3, hu3, hs3⟩ := open_rowsT (α := Rec) (c := rC) (s := 4) 5 Tryz.underlying23 (by kernel_rfl) (by omega) (by kernel_rfl) (fun cs hl hi => by
      match cs, hl with
      | [y0, y1, y2, y3], _ =>
        obtain ⟨z0, rfl, _⟩ := hi y0 (by simp)
        obtain ⟨z1, rfl, _⟩ := hi y1 (by simp)
        obtain ⟨z2, rfl, _⟩ := hi y2 (by simp)
        obtain ⟨z3, rfl, _⟩ := hi y3 (by simp)
        exact ⟨⟨z0, z1, z2, z3⟩, rfl⟩) h3
    have e93 : c3 = u3 := by simpa using hu3
    subst e93
    obtain ⟨u4, hu4, hs4⟩ := open_rowsT (α := Wg) (c := wC) (s := 6) 5 Tryz.underlying24 (by kernel_rfl) (by omega) (by kernel_rfl) (fun cs hl hi => by
      match cs, hl with
      | [y0, y1, y2, y3, y4, y5], _ =>
        obtain ⟨z0, rfl, _⟩ := hi y0 (by simp)
        obtain ⟨z1, rfl, _⟩ := hi y1 (by simp)
        obtain ⟨z2, rfl, _⟩ := hi y2 (by simp)
        obtain ⟨z3, rfl, _⟩ := hi y3 (by simp)
        obtain ⟨z4, rfl, _⟩ := hi y4 (by simp)
        obtain ⟨z5, rfl, _⟩ := hi y5 (by simp)
        exact ⟨⟨z0, z1, z2, z3, z4, z5⟩, rfl⟩) h4
    have e94 : c4 = u4 := by simpa using hu4
    subst e94
    obtain ⟨A1, n1, k1, rfl, s1⟩ := sl_slice hs2
    obtain ⟨A2, n2, k2, rfl, s2⟩ := sl_slice hs3
    obtain ⟨A3, n3, k3, rfl, s3⟩ := sl_slice hs4
    refine ⟨x0, x1, A1, n1, k1, A2, n2, k2, A3, n3, k3, rfl, ?_⟩
    rcases s1 with ⟨l1, rfl, t1⟩ | s1
    · rcases s2 with ⟨l2, rfl, t2⟩ | s2
      · rcases s3 with ⟨l3, rfl, t3⟩ | s3
        · exact .inl ⟨⟨x0, x1, l1, l2, l3⟩, rfl, rfl, rfl, rfl, rfl, _, _, _, rfl, t1, t2, t3⟩
        · exact .inr (.inr (.inr s3))
      · exact .inr (.inr (.inl s2))
    · exact .inr (.inl s1)
theorem u8_of {n : Int} (h : (Lit.int .u8 n).wf = true) : 0 ≤ n ∧ n ≤ 255 := by
  simp [Lit.wf, IntKind.min, IntKind.max, IntKind.signed, IntKind.bits] at h
  omega
end
end Go.Proofs.YtnedcclmfokdnaaGreat
