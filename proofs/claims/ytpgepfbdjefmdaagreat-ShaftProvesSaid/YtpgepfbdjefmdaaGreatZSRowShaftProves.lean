/- From the walk to the row: ShaftProves. -/
import Derived.Test.YtpgepfbdjefmdaaGreatJ30
import Derived.Test.YtpgepfbdjefmdaaGreatZSProves
import Derived.Test.YtpgepfbdjefmdaaGreatZSRowOE
namespace Go.Proofs.YtpgepfbdjefmdaaGreat
open Go.ChangeShapes Go.WideShapes Go.ChangeAt Go.RowKit Go.Deep
set_option maxRecDepth 100000 in
theorem ShaftProves_r (H : Type) (enc : TypeId × Value → H) (W : World) (base : Nat) (args : Array Value) (ds gs : List (DataW H)) (before : List MemPlace)
    (hval : ∀ (j : Nat) t v, Tryz.f10.params[j]? = some t → args[j]? = some v → Value.okWide Tryz.prog W .any base t v)
    (hW : DataW.Whole enc Tryz.prog Tryz.f10.params.toList Rows.shaftProvesSpec.vars false W args.toList ds gs before) :
    Calls Tryz.prog 10 args W fun e W' => ∃ v, e = .returned v ∧ Rows.shaftProvesSpec.post enc Tryz.prog Tryz.f10 false true false false W args v W' := by
  have hW' := hW
  obtain ⟨p, q, hA0, hV, rfl, hfz, hnd⟩ := hW
  have hA : DataW.TrodAll enc Tryz.prog W 0 (fun _ => true) true Tryz.f10.params.toList args.toList ds p := hA0
  rw [Tryz.params10] at hA hval
  obtain ⟨v0, vs0, d0, ds0, p0, q0, ha0, rfl, rfl, h0, r0⟩ := trodAll_cons hA
  obtain ⟨v1, vs1, d1, ds1, p1, q1, rfl, rfl, rfl, h1, r1⟩ := trodAll_cons r0
  obtain ⟨v2, vs2, d2, ds2, p2, q2, rfl, rfl, rfl, h2, r2⟩ := trodAll_cons r1
  obtain ⟨v3, vs3, d3, ds3, p3, q3, rfl, rfl, rfl, h3, r3⟩ := trodAll_cons r2
  obtain ⟨v4, vs4, d4, ds4, p4, q4, rfl, rfl, rfl, h4, r4⟩ := trodAll_cons r3
  obtain ⟨v5, vs5, d5, ds5, p5, q5, rfl, rfl, rfl, h5, r5⟩ := trodAll_cons r4
  obtain ⟨rfl, rfl, rfl⟩ := trodAll_nil r5
  obtain rfl : args = #[v0, v1, v2, v3, v4, v5] := by cases args; simp_all
  obtain ⟨rfl, rfl⟩ := trodVars_none hV
  obtain ⟨rm0, pr0, A0, n0, c0, B0, m0, e0, C0, l0, f0, rfl, k0⟩ := open_Kl (hval 0 _ v0 rfl rfl) h0
  obtain ⟨z1, rfl, -, -, u1⟩ := open_int Tryz.underlying5 (hval 1 _ v1 rfl rfl) h1
  obtain ⟨u1l, u1h⟩ := u8_of u1
  obtain ⟨a1, rfl⟩ : ∃ n : Nat, z1 = n := ⟨z1.toNat, by omega⟩
  obtain ⟨z2, rfl, -, -, u2⟩ := open_int Tryz.underlying5 (hval 2 _ v2 rfl rfl) h2
  obtain ⟨u2l, u2h⟩ := u8_of u2
  obtain ⟨a2, rfl⟩ : ∃ n : Nat, z2 = n := ⟨z2.toNat, by omega⟩
  obtain ⟨t3, C3, l3, f3, A3, n3, c3, B3, m3, e3, rfl, k3⟩ := open_Ch (hval 3 _ v3 rfl rfl) h3
  obtain ⟨A4, n4, c4, B4, m4, e4, rfl, k4⟩ := open_Tr (hval 4 _ v4 rfl rfl) h4
  obtain ⟨A5, n5, c5, rfl, k5⟩ := open_Is (hval 5 _ v5 rfl rfl) h5
  refine (ShaftProves_w rm0 pr0 A0 n0 c0 B0 m0 e0 C0 l0 f0 a1 a2 t3 C3 l3 f3 A3 n3 c3 B3 m3 e3 A4 n4 c4 B4 m4 e4 A5 n5 c5 W k0 (by omega) (by omega) k3 k4 k5).mono fun e W' ⟨he, hb⟩ => ?_
  subst he
  exact ⟨_, rfl, law_post (by kernel_rfl) (by kernel_rfl) rfl rfl Tryz.underlying4 hW' (by simp [Rows.shaftProvesSpec]) hb⟩
set_option maxRecDepth 100000 in
theorem ShaftProves_l (os : Os) (started : os.Started) (H : Type) (enc : TypeId × Value → H) :
    ReturnsInHanded {} Tryz.checked os 10 .any (Rows.shaftProvesSpec.pre6 enc Tryz.prog Tryz.f10 Rows.shaftProvesRow.domain false) (Rows.shaftProvesSpec.post enc Tryz.prog Tryz.f10 false true false false) := by
  refine returnsInHanded_of_change (C := Tryz.checked) row_own started (by kernel_rfl) Tryz.func10
    (ChangeSpec.witness6 (enc := enc) (C := Tryz.checked) false ⟨#[], #[.agg #[.int .i64 0, .int .i64 0, .slice none 0 0, .slice none 0 0, .slice none 0 0], .int .u8 0, .int .u8 0, .agg #[.int .i64 0, .slice none 0 0, .slice none 0 0, .slice none 0 0], .agg #[.slice none 0 0, .slice none 0 0], .slice none 0 0], []⟩ 8 (by kernel_rfl) (by kernel_rfl) (by kernel_rfl) (by kernel_rfl)) ?_
  intro W base args ds gs before hval hW _ _
  exact ShaftProves_r H enc W base args ds gs before hval hW
theorem ShaftProves_h : Rows.ShaftProvesSaid :=
  OpenClaim.holds_of_wide (p := Tryz.pinned) (s := Rows.shaftProvesSpec) (c := Rows.shaftProvesRow) 10 Tryz.f10 rfl rfl rfl rfl rfl rfl rfl ⟨rfl, rfl, rfl, rfl, rfl⟩ rfl rfl rfl rfl rfl (by kernel_rfl) Tryz.func10 (by kernel_rfl)
    (of_decide_eq_true (by kernel_rfl)) (by unfold Func.isWrapper; first | (rw [if_pos (by decide +kernel)]; kernel_rfl) | (rw [if_neg (by decide +kernel)]; exact ⟨rfl, rfl⟩))
    (fun os started H enc _ => ShaftProves_l os started H enc)
end Go.Proofs.YtpgepfbdjefmdaaGreat
