import Derived.Test.YtnedcclmfokdnaaGreatRows
import Derived.Test.YtnedcclmfokdnaaGreatJ27
import Derived.Test.YtnedcclmfokdnaaGreatJ29
import Derived.WalkKit
import Derived.ProofKit
import Derived.OpenShut
import Derived.Test.YtnedcclmfokdnaaGreatJ30
import Derived.Test.YtnedcclmfokdnaaGreatZSAboveL
namespace Go.Proofs.YtnedcclmfokdnaaGreat
open Go.ChangeShapes Go.WideShapes Go.ChangeAt Go.RowKit Go.Deep
section
variable {H : Type} {enc : TypeId × Value → H} {w : World} {base b0 : Nat} {spare : Nat → Bool} {held : Bool} {r : Reach} {v : Value} {d : DataW H} {p : List MemPlace}
set_option maxRecDepth 100000 in
theorem open_Ch (hval : Value.okWide Tryz.prog w r b0 54 v) (h : DataW.Trod enc Tryz.prog w base spare held 54 v d p) : ∃ (m : Int) (A0 : Option Addr) (n0 c0 : Nat) (A1 : Option Addr) (n1 c1 : Nat) (A2 : Option Addr) (n2 c2 : Nat), v = .agg #[.int .i64 m, .slice A0 n0 c0, .slice A1 n1 c1, .slice A2 n2 c2] ∧
    ((∃ pp tl td : List Int, pp.length = n0 ∧ tl.length = n1 ∧ td.length = n2 ∧ Ints w w.heap.size (.slice A0 n0 c0) pp ∧ Truth w (.agg #[.slice A1 n1 c1, .slice A2 n2 c2]) tl td) ∨ 140737488355328 < n0 ∨ 140737488355328 < n1 ∨ 140737488355328 < n2) := by
  have hu := Tryz.underlying54
  have hv : ∃ cs : List Value, v = .agg cs.toArray ∧ cs.length = Tryz.prog.cellsOf 54 := by
    unfold Value.okWide at hval
    split at hval
    · obtain ⟨cs, rfl, hc, _⟩ := hval
      exact ⟨cs.toList, by simp, by simpa using hc⟩
    · rename_i h2; rw [hu] at h2; cases h2
    · rename_i h1 h2; exact absurd hu (h1 _)
  obtain ⟨cs, rfl, hl⟩ := hv
  replace hl : cs.length = 4 := hl.trans (by kernel_rfl)
  obtain ⟨fuel, hf⟩ := h
  match cs, hl with
  | [c0, c1, c2, c3], _ =>
    obtain ⟨xs, k, _, _, hl2, hx, hall⟩ := DataW.trod_struct hu hf
    have hxl : xs.length = 3 := by rw [hx]; rfl
    have e0 : Tryz.prog.cellsOf 3 = 1 := by kernel_rfl
    have e1 : Tryz.prog.cellsOf 27 = 1 := by kernel_rfl
    have e2 : Tryz.prog.cellsOf 29 = 2 := by kernel_rfl
    have h0 : DataW.trod enc Tryz.prog w base spare held k 3 (([c0, c1, c2, c3].drop 0).take (Tryz.prog.cellsOf 3)) = some (xs[0]'(by omega)) := (hall 0 _ rfl).trans (List.getElem?_eq_getElem (by omega))
    rw [e0] at h0
    have h1 : DataW.trod enc Tryz.prog w base spare held k 27 (([c0, c1, c2, c3].drop 1).take (Tryz.prog.cellsOf 27)) = some (xs[1]'(by omega)) := (hall 1 _ rfl).trans (List.getElem?_eq_getElem (by omega))
    rw [e1] at h1
    have h2 : DataW.trod enc Tryz.prog w base spare held k 29 (([c0, c1, c2, c3].drop 2).take (Tryz.prog.cellsOf 29)) = some (xs[2]'(by omega)) := (hall 2 _ rfl).trans (List.getElem?_eq_getElem (by omega))
    rw [e2] at h2
    have ai : allInts Tryz.prog 1 3 = true := by kernel_rfl
    obtain ⟨x0, rfl, _⟩ := ints_of_trod 1 3 k _ _ ai h0 c0 (by simp)
    obtain ⟨u1, hu1, hs1⟩ := open_rowsT (α := Int) (c := nC) (s := 1) 5 Tryz.underlying27 (by kernel_rfl) (by omega) (by kernel_rfl) (fun cs hl hi => by
      match cs, hl with
      | [y0], _ =>
        obtain ⟨z0, rfl, _⟩ := hi y0 (by simp)
        exact ⟨z0, rfl⟩) h1
    have e91 : c1 = u1 := by simpa using hu1
    subst e91
    have hu3 := Tryz.underlying29
    have h2' : DataW.trod enc Tryz.prog w base spare held k 29 [c2, c3] = some (xs[2]'(by omega)) := h2
    obtain ⟨ys, k9, _, _, hl9, hx9, hall9⟩ := DataW.trod_struct hu3 h2'
    have hyl : ys.length = 2 := by rw [hx9]; rfl
    have e8 : Tryz.prog.cellsOf 27 = 1 := by kernel_rfl
    have h5 : DataW.trod enc Tryz.prog w base spare held k9 27 (([c2, c3].drop 0).take (Tryz.prog.cellsOf 27)) = some (ys[0]'(by omega)) := (hall9 0 _ rfl).trans (List.getElem?_eq_getElem (by omega))
    rw [e8] at h5
    have h6 : DataW.trod enc Tryz.prog w base spare held k9 27 (([c2, c3].drop 1).take (Tryz.prog.cellsOf 27)) = some (ys[1]'(by omega)) := (hall9 1 _ rfl).trans (List.getElem?_eq_getElem (by omega))
    rw [e8] at h6
    obtain ⟨u5, hu5, hs5⟩ := open_rowsT (α := Int) (c := nC) (s := 1) 5 Tryz.underlying27 (by kernel_rfl) (by omega) (by kernel_rfl) (fun cs hl hi => by
      match cs, hl with
      | [y0], _ =>
        obtain ⟨z0, rfl, _⟩ := hi y0 (by simp)
        exact ⟨z0, rfl⟩) h5
    have e95 : c2 = u5 := by simpa using hu5
    subst e95
    obtain ⟨u6, hu6, hs6⟩ := open_rowsT (α := Int) (c := nC) (s := 1) 5 Tryz.underlying27 (by kernel_rfl) (by omega) (by kernel_rfl) (fun cs hl hi => by
      match cs, hl with
      | [y0], _ =>
        obtain ⟨z0, rfl, _⟩ := hi y0 (by simp)
        exact ⟨z0, rfl⟩) h6
    have e96 : c3 = u6 := by simpa using hu6
    subst e96
    obtain ⟨A0, n0, k0, rfl, s0⟩ := sl_slice hs1
    obtain ⟨A1, n1, k1, rfl, s1⟩ := sl_slice hs5
    obtain ⟨A2, n2, k2, rfl, s2⟩ := sl_slice hs6
    refine ⟨x0, A0, n0, k0, A1, n1, k1, A2, n2, k2, rfl, ?_⟩
    rcases s0 with ⟨l0, rfl, t0⟩ | s0
    · rcases s1 with ⟨l1, rfl, t1⟩ | s1
      · rcases s2 with ⟨l2, rfl, t2⟩ | s2
        · exact .inl ⟨l0, l1, l2, rfl, rfl, rfl, t0, _, _, rfl, t1, t2⟩
        · exact .inr (.inr (.inr s2))
      · exact .inr (.inr (.inl s1))
    · exact .inr (.inl s0)
end
end Go.Proofs.YtnedcclmfokdnaaGreat

/- From the walk to the row: ShaftAbove. -/
namespace Go.Proofs.YtnedcclmfokdnaaGreat
open Go.ChangeShapes Go.WideShapes Go.ChangeAt Go.RowKit Go.Deep
set_option maxRecDepth 100000 in
theorem ShaftAbove_r (H : Type) (enc : TypeId × Value → H) (W : World) (base : Nat) (args : Array Value) (ds gs : List (DataW H)) (before : List MemPlace)
    (hval : ∀ (j : Nat) t v, Tryz.f5.params[j]? = some t → args[j]? = some v → Value.okWide Tryz.prog W .any base t v)
    (hW : DataW.Whole enc Tryz.prog Tryz.f5.params.toList Rows.shaftAboveSpec.vars false W args.toList ds gs before) :
    Calls Tryz.prog 5 args W fun e W' => ∃ v, e = .returned v ∧ Rows.shaftAboveSpec.post enc Tryz.prog Tryz.f5 false true false false W args v W' := by
  have hW' := hW
  obtain ⟨p, q, hA0, hV, rfl, hfz, hnd⟩ := hW
  have hA : DataW.TrodAll enc Tryz.prog W 0 (fun _ => true) true Tryz.f5.params.toList args.toList ds p := hA0
  rw [Tryz.params5] at hA hval
  obtain ⟨v0, vs0, d0, ds0, p0, q0, ha0, rfl, rfl, h0, r0⟩ := trodAll_cons hA
  obtain ⟨v1, vs1, d1, ds1, p1, q1, rfl, rfl, rfl, h1, r1⟩ := trodAll_cons r0
  obtain ⟨v2, vs2, d2, ds2, p2, q2, rfl, rfl, rfl, h2, r2⟩ := trodAll_cons r1
  obtain ⟨v3, vs3, d3, ds3, p3, q3, rfl, rfl, rfl, h3, r3⟩ := trodAll_cons r2
  obtain ⟨v4, vs4, d4, ds4, p4, q4, rfl, rfl, rfl, h4, r4⟩ := trodAll_cons r3
  obtain ⟨v5, vs5, d5, ds5, p5, q5, rfl, rfl, rfl, h5, r5⟩ := trodAll_cons r4
  obtain ⟨rfl, rfl, rfl⟩ := trodAll_nil r5
  obtain rfl : args = #[v0, v1, v2, v3, v4, v5] := by cases args; simp_all
  obtain ⟨rfl, rfl⟩ := trodVars_none hV
  obtain ⟨rm0, pr0, A0, n0, c0, B0, m0, e0, C0, l0, f0, rfl, k0⟩ := open_Kl (hval 0 _ v0 rfl rfl) h0
  obtain ⟨a1, rfl, -, -, -⟩ := open_int Tryz.underlying3 (hval 1 _ v1 rfl rfl) h1
  obtain ⟨a2, rfl, -, -, -⟩ := open_int Tryz.underlying3 (hval 2 _ v2 rfl rfl) h2
  obtain ⟨t3, C3, l3, f3, A3, n3, c3, B3, m3, e3, rfl, k3⟩ := open_Ch (hval 3 _ v3 rfl rfl) h3
  obtain ⟨z4, rfl, -, -, u4⟩ := open_int Tryz.underlying5 (hval 4 _ v4 rfl rfl) h4
  obtain ⟨u4l, u4h⟩ := u8_of u4
  obtain ⟨a4, rfl⟩ : ∃ n : Nat, z4 = n := ⟨z4.toNat, by omega⟩
  obtain ⟨a5, rfl, -, -, -⟩ := open_int Tryz.underlying3 (hval 5 _ v5 rfl rfl) h5
  refine (ShaftAbove_w rm0 pr0 A0 n0 c0 B0 m0 e0 C0 l0 f0 a1 a2 t3 C3 l3 f3 A3 n3 c3 B3 m3 e3 a4 a5 W k0 k3 (by omega)).mono fun e W' ⟨he, hb⟩ => ?_
  subst he
  exact ⟨_, rfl, law_post (by kernel_rfl) (by kernel_rfl) rfl rfl Tryz.underlying4 hW' (by simp [Rows.shaftAboveSpec]) hb⟩
set_option maxRecDepth 100000 in
theorem ShaftAbove_l (os : Os) (started : os.Started) (H : Type) (enc : TypeId × Value → H) :
    ReturnsInHanded {} Tryz.checked os 5 .any (Rows.shaftAboveSpec.pre6 enc Tryz.prog Tryz.f5 Rows.shaftAboveRow.domain false) (Rows.shaftAboveSpec.post enc Tryz.prog Tryz.f5 false true false false) := by
  refine returnsInHanded_of_change (C := Tryz.checked) row_own started (by kernel_rfl) Tryz.func5
    (ChangeSpec.witness6 (enc := enc) (C := Tryz.checked) false ⟨#[], #[.agg #[.int .i64 0, .int .i64 0, .slice none 0 0, .slice none 0 0, .slice none 0 0], .int .i64 0, .int .i64 0, .agg #[.int .i64 0, .slice none 0 0, .slice none 0 0, .slice none 0 0], .int .u8 0, .int .i64 0], []⟩ 8 (by kernel_rfl) (by kernel_rfl) (by kernel_rfl) (by kernel_rfl)) ?_
  intro W base args ds gs before hval hW _ _
  exact ShaftAbove_r H enc W base args ds gs before hval hW
theorem ShaftAbove_h : Rows.ShaftAboveSaid :=
  OpenClaim.holds_of_wide (p := Tryz.pinned) (s := Rows.shaftAboveSpec) (c := Rows.shaftAboveRow) 5 Tryz.f5 rfl rfl rfl rfl rfl rfl rfl ⟨rfl, rfl, rfl, rfl, rfl⟩ rfl rfl rfl rfl rfl (by kernel_rfl) Tryz.func5 (by kernel_rfl)
    (of_decide_eq_true (by kernel_rfl)) (by unfold Func.isWrapper; first | (rw [if_pos (by decide +kernel)]; kernel_rfl) | (rw [if_neg (by decide +kernel)]; exact ⟨rfl, rfl⟩))
    (fun os started H enc _ => ShaftAbove_l os started H enc)
end Go.Proofs.YtnedcclmfokdnaaGreat
