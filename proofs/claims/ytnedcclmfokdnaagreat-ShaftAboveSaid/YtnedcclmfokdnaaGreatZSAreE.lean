import Derived.Test.YtnedcclmfokdnaaGreatJ22
namespace Go.Proofs.YtnedcclmfokdnaaGreat
open Go Go.RowKit Go.Shelf
theorem all_takeW_no {α : Type} {p : α → Bool} {l : List α} {j : Nat} {x : α} (hx : l[j]? = some x) (h : p x = false) : l.all p = false := by
  rw [Bool.eq_false_iff]; intro ha
  rw [List.all_eq_true.1 ha x (List.mem_of_getElem? hx)] at h; cases h
theorem all_takeW_yes {α : Type} {p : α → Bool} {l : List α} {j : Nat} {x : α} (hx : l[j]? = some x) (h : p x = true) (ht : (l.take j).all p = true) : (l.take (j + 1)).all p = true := by
  rw [take_snoc hx, List.all_append, ht]; simp [h]
def wtB (n : Int) : Bool := inB n 0 16777216
theorem outside_c (n : Int) (w : World) : Calls Tryz.prog 139 #[.int .i64 n] w fun e w' => e = .returned (.bool (!wtB n)) ∧ w = w' := by
  have hc : (n < 0 ∧ wtB n = false) ∨ (0 ≤ n ∧ 16777216 < n ∧ wtB n = false) ∨ (0 ≤ n ∧ n ≤ 16777216 ∧ wtB n = true) := by
    unfold wtB inB
    simp only [Bool.and_eq_false_iff, Bool.and_eq_true, decide_eq_false_iff_not, decide_eq_true_eq]
    omega
  rcases hc with ⟨h, e⟩ | ⟨h, h2, e⟩ | ⟨h, h2, e⟩
  all_goals
    have HE := Lib.hid e
    clear e
    go_enter Tryz.func139, Tryz.ntmps139
    go_wp2_with fail
    go_ret
    exact ⟨ret_bool (by rw [HE.out]; simp <;> omega), rfl⟩
set_option maxRecDepth 100000 in
theorem indexWts_c (v : Value) (l : List Int) (w : World) (hv : Ints w w.heap.size v l) :
    Calls Tryz.prog 177 #[v, .func (.func 139) #[] #[]] w fun e w' => (∃ r : Int, e = .returned (.int .i64 r) ∧ -1 ≤ r ∧ (0 ≤ r ↔ l.all wtB = false)) ∧ Below w.heap.size w w' := by
  obtain ⟨A, cap, rfl, _, hn, hat⟩ := hv.open_
  have H := Lib.hid hat
  clear hat hv
  go_enter Tryz.func177, Tryz.ntmps177
  go_wp2_with fail
  go_loopw [8] (fun i wr => ∃ j : Nat, j ≤ l.length ∧ i = .int .i64 j ∧ Hid ((l.take j).all wtB = true) ∧ w = wr) (fun i _ => l.length - (intOf i).toNat)
  case atStart => exact ⟨0, Nat.zero_le _, rfl, rfl, rfl⟩
  case round =>
    obtain ⟨j, hj, rfl, hq, rfl⟩ := hrel
    by_cases hlt : j < l.length
    · obtain ⟨b, off, x, rfl, hb0, hx0, c0⟩ := H.out j hlt
      have hx := Lib.hid hx0
      clear hx0
      have HS := outside_c x w
      rcases Bool.eq_false_or_eq_true (wtB x) with hs | hs
      · rw [hs] at HS
        go_wp2_with fail
        refine HS.mono ?_
        rintro e w1 ⟨rfl, rfl⟩
        have hy := Lib.hid (all_takeW_yes hx.out hs hq.out)
        go_wp2_with fail
        go_roundw
        case rel => exact ⟨j + 1, by omega, by go_num, hy, trivial⟩
        case measure => simp [intOf]; omega
      · rw [hs] at HS
        go_wp2_with fail
        refine HS.mono ?_
        rintro e w1 ⟨rfl, rfl⟩
        have hy := Lib.hid (all_takeW_no hx.out hs)
        go_wp2_with fail
        go_ret
        exact ⟨⟨_, rfl, by omega, fun _ => hy.out, fun _ => by omega⟩, Below.refl _ _⟩
    · obtain rfl : j = l.length := by omega
      rw [List.take_length] at hq
      go_wp2_with fail
      go_ret
      exact ⟨⟨_, rfl, by omega, fun h => by omega, fun h => by rw [hq.out] at h; cases h⟩, Below.refl _ _⟩
theorem containsWts_c (v : Value) (l : List Int) (w : World) (hv : Ints w w.heap.size v l) :
    Calls Tryz.prog 140 #[v, .func (.func 139) #[] #[]] w fun e w' => e = .returned (.bool (!l.all wtB)) ∧ Below w.heap.size w w' := by
  have HC := indexWts_c v l w hv
  obtain ⟨A, cap, rfl⟩ := hv.form1
  clear hv
  go_enter Tryz.func140, Tryz.ntmps140
  go_wp2_with fail
  refine HC.mono ?_
  rintro e w1 ⟨⟨r, rfl, h1, h2⟩, hb⟩
  have hd : decide (r ≥ 0) = !l.all wtB := by
    rw [Bool.eq_iff_iff]; simp only [decide_eq_true_eq, Bool.not_eq_true']; exact h2
  clear h2
  go_wp2_with fail
  go_ret
  exact ⟨rfl, hb⟩
theorem areWeights_c (v : Value) (l : List Int) (n : Nat) (w : World) (hv : Ints w w.heap.size v l) :
    Calls Tryz.prog 72 #[v, .int .i64 n] w fun e w' => e = .returned (.bool (wtsB l n)) ∧ Below w.heap.size w w' := by
  have HC := containsWts_c v l w hv
  obtain ⟨A, cap, rfl⟩ := Sl.form1 hv
  have HE : Hid (wtsB l n = ((l.length == n) && l.all wtB)) := rfl
  clear hv
  by_cases h : l.length = n
  · have d1 : ((l.length : Int) == n) = true := by rw [beq_iff_eq]; omega
    have d2 : (l.length == n) = true := by simpa using h
    rw [d2] at HE
    generalize l.all wtB = r at HC HE
    generalize wtsB l n = q at HE ⊢
    generalize hln : l.length = ln at HC d1
    clear hln h d2
    go_enter Tryz.func72, Tryz.ntmps72
    go_wp2_with fail
    refine HC.mono ?_
    rintro e w1 ⟨rfl, hb⟩
    go_wp2_with fail
    go_ret
    exact ⟨ret_bool (by rw [HE.out]; simp), hb⟩
  · have d1 : ((l.length : Int) == n) = false := by rw [beq_eq_false_iff_ne]; omega
    have d2 : (l.length == n) = false := by simpa using h
    rw [d2] at HE
    go_enter Tryz.func72, Tryz.ntmps72
    go_wp2_with fail
    go_ret
    exact ⟨ret_bool (by rw [HE.out]; simp), Below.refl _ _⟩
end Go.Proofs.YtnedcclmfokdnaaGreat
