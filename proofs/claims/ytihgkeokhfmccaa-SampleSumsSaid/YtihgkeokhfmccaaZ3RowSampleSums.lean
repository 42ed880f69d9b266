/- From the walk to the row: SampleSums, given the contracts of the program. -/
import Derived.Test.YtihgkeokhfmccaaJ10
import Derived.Test.YtihgkeokhfmccaaZ3ThmI
namespace Go.Proofs.Ytihgkeokhfmccaa
open Go.ChangeShapes Go.WideShapes Go.ChangeAt Go.RowKit Go.Deep
set_option maxHeartbeats 3200000 in
set_option maxRecDepth 100000 in
theorem SampleSums_big (S : Sam) (A : Option Addr) (n cap : Nat) (s : Int) (p : Sp) (at_ hg : Int) (w : World) (h : 6 < n) : Calls Try.prog 21 #[.slice A n cap, .int .i64 s, spV p, .int .u8 at_, .int .u8 hg] w fun e w' => e = .returned (.bool true) ∧ Below w.heap.size w w' := by
  unfold spV
  go_enter Try.func21, Try.ntmps21
  go_wp2_with fail
  refine (head_c S _).mono ?_
  rintro e w1 ⟨he, hb1⟩
  subst he
  have hB1 : Below w.heap.size w w1 := (below_then (below_alloc _ _) hb1)
  clear hb1
  have d1 : decide ((n : Int) > 6) = true := decide_eq_true (by omega)
  clear h
  go_wp2_with fail
  go_ret
  exact ⟨rfl, hB1⟩
set_option maxRecDepth 100000 in
theorem SampleSums_r (S : Sam) (H : Type) (enc : TypeId × Value → H) (W : World) (base : Nat) (args : Array Value) (ds gs : List (DataW H)) (before : List MemPlace)
    (hval : ∀ (j : Nat) t v, Try.f21.params[j]? = some t → args[j]? = some v → Value.okWide Try.prog W .any base t v)
    (hW : DataW.Whole enc Try.prog Try.f21.params.toList Rows.sampleSumsSpec.vars false W args.toList ds gs before) :
    Calls Try.prog 21 args W fun e W' => ∃ v, e = .returned v ∧ Rows.sampleSumsSpec.post enc Try.prog Try.f21 false true false false W args v W' := by
  have hW' := hW
  obtain ⟨p, q, hA0, hV, rfl, hfz, hnd⟩ := hW
  have hA : DataW.TrodAll enc Try.prog W 0 (fun _ => true) true Try.f21.params.toList args.toList ds p := hA0
  rw [Try.params21] at hA hval
  obtain ⟨v0, vs0, d0, ds0, p0, q0, ha0, rfl, rfl, h0, r0⟩ := trodAll_cons hA
  obtain ⟨v1, vs1, d1, ds1, p1, q1, rfl, rfl, rfl, h1, r1⟩ := trodAll_cons r0
  obtain ⟨v2, vs2, d2, ds2, p2, q2, rfl, rfl, rfl, h2, r2⟩ := trodAll_cons r1
  obtain ⟨v3, vs3, d3, ds3, p3, q3, rfl, rfl, rfl, h3, r3⟩ := trodAll_cons r2
  obtain ⟨v4, vs4, d4, ds4, p4, q4, rfl, rfl, rfl, h4, r4⟩ := trodAll_cons r3
  obtain ⟨rfl, rfl, rfl⟩ := trodAll_nil r4
  obtain rfl : args = #[v0, v1, v2, v3, v4] := by cases args; simp_all
  obtain ⟨rfl, rfl⟩ := trodVars_none hV
  obtain ⟨a1, rfl, -, -, -⟩ := open_int Try.underlying3 (hval 1 _ v1 rfl rfl) h1
  obtain ⟨a2, rfl⟩ := open_Sp (hval 2 _ v2 rfl rfl) h2
  obtain ⟨a3, rfl, -, -, u3⟩ := open_int Try.underlying5 (hval 3 _ v3 rfl rfl) h3
  obtain ⟨a4, rfl, -, -, u4⟩ := open_int Try.underlying5 (hval 4 _ v4 rfl rfl) h4
  rcases open_Bts (hval 0 _ v0 rfl rfl) h0 with ⟨a0, k0⟩ | ⟨A, n, cap, rfl, hbig⟩
  rotate_left
  · refine (SampleSums_big S A n cap a1 a2 a3 a4 W (by omega)).mono fun e W' ⟨he, hb⟩ => ?_
    subst he
    exact ⟨_, rfl, law_post (by kernel_rfl) (by kernel_rfl) rfl rfl Try.underlying4 hW' (by simp [Rows.sampleSumsSpec]) hb⟩
  refine (SampleSums_w S a0 a1 a2 a3 a4 _ W k0 (u8_of u3) (u8_of u4)).mono fun e W' ⟨he, hb⟩ => ?_
  subst he
  exact ⟨_, rfl, law_post (by kernel_rfl) (by kernel_rfl) rfl rfl Try.underlying4 hW' (by simp [Rows.sampleSumsSpec]) hb⟩
set_option maxRecDepth 100000 in
theorem SampleSums_l (S : Sam) (os : Os) (started : os.Started) (H : Type) (enc : TypeId × Value → H) :
    ReturnsInHanded {} Try.checked os 21 .any (Rows.sampleSumsSpec.pre6 enc Try.prog Try.f21 Rows.sampleSumsRow.domain false) (Rows.sampleSumsSpec.post enc Try.prog Try.f21 false true false false) := by
  refine returnsInHanded_of_change (C := Try.checked) row_own started (by kernel_rfl) Try.func21
    (ChangeSpec.witness6 (enc := enc) (C := Try.checked) false ⟨#[], #[.slice none 0 0, .int .i64 0, .agg #[.int .i64 0, .int .i64 0], .int .u8 0, .int .u8 0], []⟩ 8 (by kernel_rfl) (by kernel_rfl) (by kernel_rfl) (by kernel_rfl)) ?_
  intro W base args ds gs before hval hW _ _
  exact SampleSums_r S H enc W base args ds gs before hval hW
theorem SampleSums_h (S : Sam) : Rows.SampleSumsSaid :=
  OpenClaim.holds_of_wide (p := Try.pinned) (s := Rows.sampleSumsSpec) (c := Rows.sampleSumsRow) 21 Try.f21 rfl rfl rfl rfl rfl rfl rfl ⟨rfl, rfl, rfl, rfl, rfl⟩ rfl rfl rfl rfl rfl (by kernel_rfl) Try.func21 (by kernel_rfl)
    (of_decide_eq_true (by kernel_rfl)) (by unfold Func.isWrapper; first | (rw [if_pos (by decide +kernel)]; kernel_rfl) | (rw [if_neg (by decide +kernel)]; exact ⟨rfl, rfl⟩))
    (fun os started H enc _ => SampleSums_l S os started H enc)
end Go.Proofs.Ytihgkeokhfmccaa
