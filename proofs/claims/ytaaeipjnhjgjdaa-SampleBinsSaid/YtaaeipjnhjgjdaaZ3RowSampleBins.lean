/- From the walk to the row: SampleBins, given the contracts of the program. -/
import Derived.Test.YtaaeipjnhjgjdaaJ10
import Derived.Test.YtaaeipjnhjgjdaaZ3ThmJ
namespace Go.Proofs.Ytaaeipjnhjgjdaa
open Go.ChangeShapes Go.WideShapes Go.ChangeAt Go.RowKit Go.Deep
set_option maxHeartbeats 3200000 in
set_option maxRecDepth 100000 in
theorem SampleBins_big (S : Sam) (b : Bt) (A : Option Addr) (n cap : Nat) (w : World) (h : 60 < n) : Calls Try.prog 7 #[btV b, .slice A n cap] w fun e w' => e = .returned (.bool true) ∧ Below w.heap.size w w' := by
  unfold btV
  go_enter Try.func7, Try.ntmps7
  go_wp2_with fail
  refine (head_c S _).mono ?_
  rintro e w1 ⟨he, hb1⟩
  subst he
  have hB1 : Below w.heap.size w w1 := (below_then (below_alloc _ _) hb1)
  clear hb1
  have d1 : decide ((n : Int) > 60) = true := decide_eq_true (by omega)
  clear h
  go_wp2_with fail
  go_ret
  exact ⟨rfl, hB1⟩
set_option maxRecDepth 100000 in
theorem SampleBins_r (S : Sam) (H : Type) (enc : TypeId × Value → H) (W : World) (base : Nat) (args : Array Value) (ds gs : List (DataW H)) (before : List MemPlace)
    (hval : ∀ (j : Nat) t v, Try.f7.params[j]? = some t → args[j]? = some v → Value.okWide Try.prog W .any base t v)
    (hW : DataW.Whole enc Try.prog Try.f7.params.toList Rows.sampleBinsSpec.vars false W args.toList ds gs before) :
    Calls Try.prog 7 args W fun e W' => ∃ v, e = .returned v ∧ Rows.sampleBinsSpec.post enc Try.prog Try.f7 false true false false W args v W' := by
  have hW' := hW
  obtain ⟨p, q, hA0, hV, rfl, hfz, hnd⟩ := hW
  have hA : DataW.TrodAll enc Try.prog W 0 (fun _ => true) true Try.f7.params.toList args.toList ds p := hA0
  rw [Try.params7] at hA hval
  obtain ⟨v0, vs0, d0, ds0, p0, q0, ha0, rfl, rfl, h0, r0⟩ := trodAll_cons hA
  obtain ⟨v1, vs1, d1, ds1, p1, q1, rfl, rfl, rfl, h1, r1⟩ := trodAll_cons r0
  obtain ⟨rfl, rfl, rfl⟩ := trodAll_nil r1
  obtain rfl : args = #[v0, v1] := by cases args; simp_all
  obtain ⟨rfl, rfl⟩ := trodVars_none hV
  obtain ⟨a0, rfl⟩ := open_Bt (hval 0 _ v0 rfl rfl) h0
  rcases open_steps (hval 1 _ v1 rfl rfl) h1 with ⟨a1, k1⟩ | ⟨A, n, cap, rfl, hbig⟩
  rotate_left
  · refine (SampleBins_big S a0 A n cap W (by omega)).mono fun e W' ⟨he, hb⟩ => ?_
    subst he
    exact ⟨_, rfl, law_post (by kernel_rfl) (by kernel_rfl) rfl rfl Try.underlying4 hW' (by simp [Rows.sampleBinsSpec]) hb⟩
  refine (SampleBins_w S a0 _ a1 W k1).mono fun e W' ⟨he, hb⟩ => ?_
  subst he
  exact ⟨_, rfl, law_post (by kernel_rfl) (by kernel_rfl) rfl rfl Try.underlying4 hW' (by simp [Rows.sampleBinsSpec]) hb⟩
set_option maxRecDepth 100000 in
theorem SampleBins_l (S : Sam) (os : Os) (started : os.Started) (H : Type) (enc : TypeId × Value → H) :
    ReturnsInHanded {} Try.checked os 7 .any (Rows.sampleBinsSpec.pre6 enc Try.prog Try.f7 Rows.sampleBinsRow.domain false) (Rows.sampleBinsSpec.post enc Try.prog Try.f7 false true false false) := by
  refine returnsInHanded_of_change (C := Try.checked) row_own started (by kernel_rfl) Try.func7
    (ChangeSpec.witness6 (enc := enc) (C := Try.checked) false ⟨#[], #[.agg #[.int .i64 0, .int .i64 0, .int .i64 0, .int .i64 0, .int .i64 0, .int .i64 0, .int .i64 0, .int .i64 0, .int .i64 0, .int .i64 0], .slice none 0 0], []⟩ 8 (by kernel_rfl) (by kernel_rfl) (by kernel_rfl) (by kernel_rfl)) ?_
  intro W base args ds gs before hval hW _ _
  exact SampleBins_r S H enc W base args ds gs before hval hW
theorem SampleBins_h (S : Sam) : Rows.SampleBinsSaid :=
  OpenClaim.holds_of_wide (p := Try.pinned) (s := Rows.sampleBinsSpec) (c := Rows.sampleBinsRow) 7 Try.f7 rfl rfl rfl rfl rfl rfl rfl ⟨rfl, rfl, rfl, rfl, rfl⟩ rfl rfl rfl rfl rfl (by kernel_rfl) Try.func7 (by kernel_rfl)
    (of_decide_eq_true (by kernel_rfl)) (by unfold Func.isWrapper; first | (rw [if_pos (by decide +kernel)]; kernel_rfl) | (rw [if_neg (by decide +kernel)]; exact ⟨rfl, rfl⟩))
    (fun os started H enc _ => SampleBins_l S os started H enc)
end Go.Proofs.Ytaaeipjnhjgjdaa
