/- From the walk to the row: FireFields. -/
import Derived.Test.YtjpoacffnpgjdaaGreatJ35
import Derived.Test.YtjpoacffnpgjdaaGreatZFFields
namespace Go.Proofs.YtjpoacffnpgjdaaGreat
open Go.ChangeShapes Go.WideShapes Go.ChangeAt Go.RowKit Go.Deep
set_option maxRecDepth 100000 in
theorem FireFields_r (H : Type) (enc : TypeId × Value → H) (W : World) (base : Nat) (args : Array Value) (ds gs : List (DataW H)) (before : List MemPlace)
    (hval : ∀ (j : Nat) t v, Tryz.f5.params[j]? = some t → args[j]? = some v → Value.okWide Tryz.prog W .any base t v)
    (hW : DataW.Whole enc Tryz.prog Tryz.f5.params.toList Rows.fireFieldsSpec.vars false W args.toList ds gs before) :
    Calls Tryz.prog 5 args W fun e W' => ∃ v, e = .returned v ∧ Rows.fireFieldsSpec.post enc Tryz.prog Tryz.f5 false true false false W args v W' := by
  have hW' := hW
  obtain ⟨p, q, hA0, hV, rfl, hfz, hnd⟩ := hW
  have hA : DataW.TrodAll enc Tryz.prog W 0 (fun _ => true) true Tryz.f5.params.toList args.toList ds p := hA0
  rw [Tryz.params5] at hA hval
  obtain ⟨v0, vs0, d0, ds0, p0, q0, ha0, rfl, rfl, h0, r0⟩ := trodAll_cons hA
  obtain ⟨v1, vs1, d1, ds1, p1, q1, rfl, rfl, rfl, h1, r1⟩ := trodAll_cons r0
  obtain ⟨v2, vs2, d2, ds2, p2, q2, rfl, rfl, rfl, h2, r2⟩ := trodAll_cons r1
  obtain ⟨rfl, rfl, rfl⟩ := trodAll_nil r2
  obtain rfl : args = #[v0, v1, v2] := by cases args; simp_all
  obtain ⟨rfl, rfl⟩ := trodVars_none hV
  rcases open_Fi (hval 0 _ v0 rfl rfl) h0 with ⟨f0, vl, rfl, hk⟩ | ⟨f0, A, n, cap, rfl, hbig⟩
  rotate_left
  · refine (FireFields_no f0 A n cap  v1 v2 W (few_big (by omega))).mono fun e W' ⟨he, hb⟩ => ?_
    subst he
    exact ⟨_, rfl, law_post (by kernel_rfl) (by kernel_rfl) rfl rfl Tryz.underlying4 hW' (by simp [Rows.fireFieldsSpec]) hb⟩
  rcases open_Spts (hval 1 _ v1 rfl rfl) h1 with ⟨l1, k1⟩ | ⟨A1, n1, cap1, rfl, hbig1⟩
  rotate_left
  · refine (FireFields_big1 f0 vl A1 n1 cap1 v2 W hk (by omega)).mono fun e W' ⟨he, hb⟩ => ?_
    subst he
    exact ⟨_, rfl, law_post (by kernel_rfl) (by kernel_rfl) rfl rfl Tryz.underlying4 hW' (by simp [Rows.fireFieldsSpec]) hb⟩
  rcases open_Ints (hval 2 _ v2 rfl rfl) h2 with ⟨l2, k2⟩ | ⟨A2, n2, cap2, rfl, hbig2⟩
  rotate_left
  · refine (FireFields_big2 f0 vl v1 l1 A2 n2 cap2 W hk k1 (by omega)).mono fun e W' ⟨he, hb⟩ => ?_
    subst he
    exact ⟨_, rfl, law_post (by kernel_rfl) (by kernel_rfl) rfl rfl Tryz.underlying4 hW' (by simp [Rows.fireFieldsSpec]) hb⟩
  refine (FireFields_w f0 vl v1 l1 v2 l2 W hk k1 k2).mono fun e W' ⟨he, hb⟩ => ?_
  subst he
  exact ⟨_, rfl, law_post (by kernel_rfl) (by kernel_rfl) rfl rfl Tryz.underlying4 hW' (by simp [Rows.fireFieldsSpec]) hb⟩
set_option maxRecDepth 100000 in
theorem FireFields_l (os : Os) (started : os.Started) (H : Type) (enc : TypeId × Value → H) :
    ReturnsInHanded {} Tryz.checked os 5 .any (Rows.fireFieldsSpec.pre6 enc Tryz.prog Tryz.f5 Rows.fireFieldsRow.domain false) (Rows.fireFieldsSpec.post enc Tryz.prog Tryz.f5 false true false false) := by
  refine returnsInHanded_of_change (C := Tryz.checked) row_own started (by kernel_rfl) Tryz.func5
    (ChangeSpec.witness6 (enc := enc) (C := Tryz.checked) false ⟨#[], #[.agg #[.int .i64 0, .int .i64 0, .int .i64 0, .int .i64 0, .slice none 0 0], .slice none 0 0, .slice none 0 0], []⟩ 8 (by kernel_rfl) (by kernel_rfl) (by kernel_rfl) (by kernel_rfl)) ?_
  intro W base args ds gs before hval hW _ _
  exact FireFields_r H enc W base args ds gs before hval hW
theorem FireFields_h : Rows.FireFieldsSaid :=
  OpenClaim.holds_of_wide (p := Tryz.pinned) (s := Rows.fireFieldsSpec) (c := Rows.fireFieldsRow) 5 Tryz.f5 rfl rfl rfl rfl rfl rfl rfl ⟨rfl, rfl, rfl, rfl, rfl⟩ rfl rfl rfl rfl rfl (by kernel_rfl) Tryz.func5 (by kernel_rfl)
    (of_decide_eq_true (by kernel_rfl)) (by unfold Func.isWrapper; first | (rw [if_pos (by decide +kernel)]; kernel_rfl) | (rw [if_neg (by decide +kernel)]; exact ⟨rfl, rfl⟩))
    (fun os started H enc _ => FireFields_l os started H enc)
end Go.Proofs.YtjpoacffnpgjdaaGreat
