/- Texts joined: ShaftA. -/
import Derived.Test.YtnedcclmfokdnaaGreatJ5
import Derived.Test.YtnedcclmfokdnaaGreatJ6
namespace Go.Proofs.YtnedcclmfokdnaaGreat
open Go.RowKit
theorem isID_c (n : Int) (w : World) : Calls Tryz.prog 144 #[.int .i64 n] w fun e w' => e = .returned (.bool (inB n 1 1099511627776)) ∧ w = w' := by
  by_cases h : 1 ≤ n
  · go_enter Tryz.func144, Tryz.ntmps144
    go_wp2
    go_ret
    exact ⟨ret_bool (by simp [inB, h]), rfl⟩
  · go_enter Tryz.func144, Tryz.ntmps144
    go_wp2
    go_ret
    exact ⟨ret_bool (by simp [inB]; omega), rfl⟩
theorem isHour_c (n : Int) (w : World) : Calls Tryz.prog 145 #[.int .i64 n] w fun e w' => e = .returned (.bool (inB n 0 16384)) ∧ w = w' := by
  by_cases h : 0 ≤ n
  · go_enter Tryz.func145, Tryz.ntmps145
    go_wp2
    go_ret
    exact ⟨ret_bool (by simp [inB, h]), rfl⟩
  · go_enter Tryz.func145, Tryz.ntmps145
    go_wp2
    go_ret
    exact ⟨ret_bool (by simp [inB]; omega), rfl⟩
theorem isSpan_c (lo hi most : Int) (w : World) :
    Calls Tryz.prog 146 #[.agg #[.int .i64 lo, .int .i64 hi], .int .i64 most] w fun e w' => e = .returned (.bool (spanB lo hi most)) ∧ Below w.heap.size w w' := by
  by_cases h1 : 0 ≤ lo
  · by_cases h2 : lo ≤ hi
    · go_enter Tryz.func146, Tryz.ntmps146
      go_wp2
      go_ret
      exact ⟨ret_bool (by simp [spanB, h1, h2]), below_alloc _ _⟩
    · go_enter Tryz.func146, Tryz.ntmps146
      go_wp2
      go_ret
      exact ⟨ret_bool (by simp [spanB, h1]; omega), below_alloc _ _⟩
  · go_enter Tryz.func146, Tryz.ntmps146
    go_wp2
    go_ret
    exact ⟨ret_bool (by simp [spanB]; omega), below_alloc _ _⟩
def cntLe : List Rec → Int → Nat
  | [], _ => 0
  | x :: l, h => if x.hour ≤ h then cntLe l h + 1 else 0
theorem cntLe_le : ∀ (l : List Rec) (h : Int), cntLe l h ≤ l.length
  | [], _ => by simp [cntLe]
  | x :: l, h => by have := cntLe_le l h; unfold cntLe; split <;> simp <;> omega
theorem cntLe_stop : ∀ {l : List Rec} {h : Int} {j : Nat}, (∀ (m : Nat) (x : Rec), m < j → l[m]? = some x → x.hour ≤ h) → j ≤ l.length → (∀ x, l[j]? = some x → ¬ x.hour ≤ h) → cntLe l h = j
  | [], h, j, _, hj, _ => by simp at hj; subst hj; rfl
  | y :: l, h, 0, _, _, hn => by unfold cntLe; rw [if_neg (hn y rfl)]
  | y :: l, h, j + 1, hm, hj, hn => by
    unfold cntLe
    rw [if_pos (hm 0 y (by omega) rfl), cntLe_stop (j := j) (fun m x hlt hx => hm (m + 1) x (by omega) (by simpa using hx)) (by simpa using hj) (fun x hx => hn x (by simpa using hx))]
def markB (base c : Int) : Int := if c = 0 then 0 else base + c
theorem Tryz.fieldID (a b c d : Value) (w : World) : (Instr.field 103 (.agg #[a, b, c, d]) 0).run Tryz.prog w = .ok a w := by kernel_rfl
theorem Tryz.fieldHour (a b c d : Value) (w : World) : (Instr.field 103 (.agg #[a, b, c, d]) 1).run Tryz.prog w = .ok b w := by kernel_rfl
theorem atL_c (l : List Rec) (v : Value) (bs : Int) (i : Nat) (x : Rec) (w : World) (hv : Recs w w.heap.size v l) (hx : l[i]? = some x) :
    Calls Tryz.prog 143 #[.agg #[v, .int .i64 bs], .int .i64 i] w fun e w' => e = .returned (.agg #[.int .i64 x.id, .int .i64 x.hour, .int .i64 x.lo, .int .i64 x.hi]) ∧ Below w.heap.size w w' := by
  have hlt := (List.getElem?_eq_some_iff.1 hx).1
  obtain ⟨A, cap, rfl, _, hn, hat⟩ := hv.open_
  obtain ⟨b, off, y, rfl, hb, hy, c0, c1, c2, c3⟩ := hat i hlt
  rw [hx] at hy
  cases hy
  clear hat hx
  go_enter Tryz.func143, Tryz.ntmps143
  go_wp2
  exact bodyPost_ret (v := .agg #[.int .i64 x.id, .int .i64 x.hour, .int .i64 x.lo, .int .i64 x.hi]) (by simp [results, Tryz.results143, go_sem]) rfl ⟨rfl, below_then (below_alloc _ _) (below_alloc _ _)⟩
theorem markL_c (v : Value) (bs c : Int) (w : World) (hb : 0 ≤ bs ∧ bs ≤ 140737488355328) (hc : 0 ≤ c ∧ c ≤ 140737488355329) :
    Calls Tryz.prog 155 #[.agg #[v, .int .i64 bs], .int .i64 c] w fun e w' => e = .returned (.int .i64 (markB bs c)) ∧ Below w.heap.size w w' := by
  by_cases hz : c = 0
  · subst hz
    go_enter Tryz.func155, Tryz.ntmps155
    go_wp2
    go_ret
    exact ⟨ret_int (by simp [markB]), below_alloc _ _⟩
  · go_enter Tryz.func155, Tryz.ntmps155
    go_wp2
    go_ret
    exact ⟨ret_int (by simp [markB, hz]), below_alloc _ _⟩
theorem partL_c (v : Value) (bs : Int) (i : Nat) (w : World) (hb : 0 ≤ bs ∧ bs ≤ 140737488355328) (hi : i ≤ 140737488355328) :
    Calls Tryz.prog 154 #[.agg #[v, .int .i64 bs], .int .i64 i] w fun e w' => e = .returned (.agg #[.int .i64 (markB bs i), .int .i64 (markB bs (i + 1))]) ∧ Below w.heap.size w w' := by
  go_enter Tryz.func154, Tryz.ntmps154
  go_wp2_with fail
  refine wp_region_grown_tail 8 (by kernel_rfl) (by kernel_rfl) fun hcg => ?_
  simp only [List.take_succ_cons, List.take_zero, List.drop_succ_cons, List.drop_zero]
  repeat (go_big_quiet_step (first | (go_at_call 155; exact Calls.grown (markL_c _ _ _ _ hb (by omega)))))
  refine wpQuiet_nil ?_
  intro _ hw'
  obtain ⟨g, hw''⟩ := hw'
  subst hw''
  have hfg := (bcell g.b).2
  have hgs := g.b.size
  simp only [World.size_alloc] at hgs
  have hlt : w.heap.size + 1 < g.val.heap.size := by omega
  go_wp2
  exact bodyPost_ret (v := .agg #[.int .i64 (markB bs i), .int .i64 (markB bs (i + 1))]) (by simp [results, Tryz.results154, go_sem, hcg]) rfl ⟨rfl, ((below_then (below_then (below_alloc _ _) (below_alloc _ _)) g.b).setCell (by simp) _).setCell (by simp) _⟩
set_option maxRecDepth 100000 in
theorem byL_c (l : List Rec) (v : Value) (bs h : Int) (w : World) (hv : Recs w w.heap.size v l) (hbs : 0 ≤ bs ∧ bs ≤ 140737488355328) :
    Calls Tryz.prog 111 #[.agg #[v, .int .i64 bs], .int .i64 h] w fun e w' => e = .returned (.int .i64 (markB bs (cntLe l h))) ∧ Below w.heap.size w w' := by
  obtain ⟨A, cap, rfl, _, hn, hat0⟩ := id hv
  clear hat0
  have HV := Lib.hid hv
  clear hv
  have hfl := Tryz.fieldHour
  go_enter Tryz.func111, Tryz.ntmps111
  go_wp2
  go_loopw [5] (fun i wr => ∃ j : Nat, j ≤ l.length ∧ i = .int .i64 j ∧ Hid (∀ (m : Nat) (x : Rec), m < j → l[m]? = some x → x.hour ≤ h) ∧ Below (w.heap.size + 1) (w.alloc (.cells #[.slice A l.length cap, .int .i64 bs] 130)) wr) (fun i _ => l.length - (intOf i).toNat)
  case atStart => exact ⟨0, Nat.zero_le _, rfl, fun _ _ h => absurd h (by omega), Below.refl _ _⟩
  case round =>
    obtain ⟨j, hj, rfl, hq, hbw⟩ := hrel
    obtain ⟨hc, hf⟩ := bcellB hbw
    have hb1 : w.heap.size + 1 ≤ wr.heap.size := by have := hbw.size; simpa using this
    have hB0 := below_then (below_alloc w (.cells #[.slice A l.length cap, .int .i64 bs] 130)) (hbw.mono (by simp))
    by_cases hlt : j < l.length
    · obtain ⟨x, hx0⟩ : ∃ x, l[j]? = some x := ⟨_, List.getElem?_eq_getElem hlt⟩
      have hx := Lib.hid hx0
      clear hx0
      by_cases hh : x.hour ≤ h
      · go_wp2_with fail
        refine (atL_c l _ _ j x _ (HV.out.later hB0) hx.out).mono ?_
        rintro e w1 ⟨rfl, hb2⟩
        have hbn := below_grown hbw hb1 hb2
        clear hc hf
        go_wp2_with fail
        go_roundw
        case rel => exact ⟨j + 1, by omega, by go_num, fun m y hm hy => by
          by_cases e' : m = j
          · subst e'; rw [hx.out] at hy; cases hy; exact hh
          · exact hq.out m y (by omega) hy, hbn⟩
        case measure => simp [intOf]; omega
      · have hcl := Lib.hid (cntLe_stop hq.out hj fun y hy => by rw [hx.out] at hy; cases hy; exact hh)
        go_wp2_with fail
        refine (atL_c l _ _ j x _ (HV.out.later hB0) hx.out).mono ?_
        rintro e w1 ⟨rfl, hb2⟩
        obtain ⟨hc2, hf2⟩ := bcell hb2
        have hz : w.heap.size < wr.heap.size := by omega
        go_wp2_with fail
        refine (markL_c _ _ _ _ hbs (by omega)).mono ?_
        rintro e w2 ⟨rfl, hb3⟩
        go_wp2_with fail
        go_ret
        exact ⟨ret_int (by rw [hcl.out]), below_then (below_then hB0 hb2) hb3⟩
    · obtain rfl : j = l.length := by omega
      have hcl := Lib.hid (cntLe_stop hq.out hj fun y hy => by rw [List.getElem?_eq_none (Nat.le_refl _)] at hy; cases hy)
      go_wp2_with fail
      refine (markL_c _ _ _ _ hbs (by omega)).mono ?_
      rintro e w2 ⟨rfl, hb3⟩
      go_wp2_with fail
      go_ret
      exact ⟨ret_int (by rw [hcl.out]), below_then hB0 hb3⟩
theorem atD_c (l : List Rec) (v : Value) (bs : Int) (i : Nat) (x : Rec) (w : World) (hv : Recs w w.heap.size v l) (hx : l[i]? = some x) :
    Calls Tryz.prog 147 #[.agg #[v, .int .i64 bs], .int .i64 i] w fun e w' => e = .returned (.agg #[.int .i64 x.id, .int .i64 x.hour, .int .i64 x.lo, .int .i64 x.hi]) ∧ Below w.heap.size w w' := by
  have hlt := (List.getElem?_eq_some_iff.1 hx).1
  obtain ⟨A, cap, rfl, _, hn, hat⟩ := hv.open_
  obtain ⟨b, off, y, rfl, hb, hy, c0, c1, c2, c3⟩ := hat i hlt
  rw [hx] at hy
  cases hy
  clear hat hx
  go_enter Tryz.func147, Tryz.ntmps147
  go_wp2
  exact bodyPost_ret (v := .agg #[.int .i64 x.id, .int .i64 x.hour, .int .i64 x.lo, .int .i64 x.hi]) (by simp [results, Tryz.results147, go_sem]) rfl ⟨rfl, below_then (below_alloc _ _) (below_alloc _ _)⟩
theorem markD_c (v : Value) (bs c : Int) (w : World) (hb : 0 ≤ bs ∧ bs ≤ 140737488355328) (hc : 0 ≤ c ∧ c ≤ 140737488355329) :
    Calls Tryz.prog 156 #[.agg #[v, .int .i64 bs], .int .i64 c] w fun e w' => e = .returned (.int .i64 (markB bs c)) ∧ Below w.heap.size w w' := by
  by_cases hz : c = 0
  · subst hz
    go_enter Tryz.func156, Tryz.ntmps156
    go_wp2
    go_ret
    exact ⟨ret_int (by simp [markB]), below_alloc _ _⟩
  · go_enter Tryz.func156, Tryz.ntmps156
    go_wp2
    go_ret
    exact ⟨ret_int (by simp [markB, hz]), below_alloc _ _⟩
theorem partD_c (v : Value) (bs : Int) (i : Nat) (w : World) (hb : 0 ≤ bs ∧ bs ≤ 140737488355328) (hi : i ≤ 140737488355328) :
    Calls Tryz.prog 162 #[.agg #[v, .int .i64 bs], .int .i64 i] w fun e w' => e = .returned (.agg #[.int .i64 (markB bs i), .int .i64 (markB bs (i + 1))]) ∧ Below w.heap.size w w' := by
  go_enter Tryz.func162, Tryz.ntmps162
  go_wp2_with fail
  refine wp_region_grown_tail 8 (by kernel_rfl) (by kernel_rfl) fun hcg => ?_
  simp only [List.take_succ_cons, List.take_zero, List.drop_succ_cons, List.drop_zero]
  repeat (go_big_quiet_step (first | (go_at_call 156; exact Calls.grown (markD_c _ _ _ _ hb (by omega)))))
  refine wpQuiet_nil ?_
  intro _ hw'
  obtain ⟨g, hw''⟩ := hw'
  subst hw''
  have hfg := (bcell g.b).2
  have hgs := g.b.size
  simp only [World.size_alloc] at hgs
  have hlt : w.heap.size + 1 < g.val.heap.size := by omega
  go_wp2
  exact bodyPost_ret (v := .agg #[.int .i64 (markB bs i), .int .i64 (markB bs (i + 1))]) (by simp [results, Tryz.results162, go_sem, hcg]) rfl ⟨rfl, ((below_then (below_then (below_alloc _ _) (below_alloc _ _)) g.b).setCell (by simp) _).setCell (by simp) _⟩
set_option maxRecDepth 100000 in
theorem byD_c (l : List Rec) (v : Value) (bs h : Int) (w : World) (hv : Recs w w.heap.size v l) (hbs : 0 ≤ bs ∧ bs ≤ 140737488355328) :
    Calls Tryz.prog 112 #[.agg #[v, .int .i64 bs], .int .i64 h] w fun e w' => e = .returned (.int .i64 (markB bs (cntLe l h))) ∧ Below w.heap.size w w' := by
  obtain ⟨A, cap, rfl, _, hn, hat0⟩ := id hv
  clear hat0
  have HV := Lib.hid hv
  clear hv
  have hfl := Tryz.fieldHour
  go_enter Tryz.func112, Tryz.ntmps112
  go_wp2
  go_loopw [5] (fun i wr => ∃ j : Nat, j ≤ l.length ∧ i = .int .i64 j ∧ Hid (∀ (m : Nat) (x : Rec), m < j → l[m]? = some x → x.hour ≤ h) ∧ Below (w.heap.size + 1) (w.alloc (.cells #[.slice A l.length cap, .int .i64 bs] 134)) wr) (fun i _ => l.length - (intOf i).toNat)
  case atStart => exact ⟨0, Nat.zero_le _, rfl, fun _ _ h => absurd h (by omega), Below.refl _ _⟩
  case round =>
    obtain ⟨j, hj, rfl, hq, hbw⟩ := hrel
    obtain ⟨hc, hf⟩ := bcellB hbw
    have hb1 : w.heap.size + 1 ≤ wr.heap.size := by have := hbw.size; simpa using this
    have hB0 := below_then (below_alloc w (.cells #[.slice A l.length cap, .int .i64 bs] 134)) (hbw.mono (by simp))
    by_cases hlt : j < l.length
    · obtain ⟨x, hx0⟩ : ∃ x, l[j]? = some x := ⟨_, List.getElem?_eq_getElem hlt⟩
      have hx := Lib.hid hx0
      clear hx0
      by_cases hh : x.hour ≤ h
      · go_wp2_with fail
        refine (atD_c l _ _ j x _ (HV.out.later hB0) hx.out).mono ?_
        rintro e w1 ⟨rfl, hb2⟩
        have hbn := below_grown hbw hb1 hb2
        clear hc hf
        go_wp2_with fail
        go_roundw
        case rel => exact ⟨j + 1, by omega, by go_num, fun m y hm hy => by
          by_cases e' : m = j
          · subst e'; rw [hx.out] at hy; cases hy; exact hh
          · exact hq.out m y (by omega) hy, hbn⟩
        case measure => simp [intOf]; omega
      · have hcl := Lib.hid (cntLe_stop hq.out hj fun y hy => by rw [hx.out] at hy; cases hy; exact hh)
        go_wp2_with fail
        refine (atD_c l _ _ j x _ (HV.out.later hB0) hx.out).mono ?_
        rintro e w1 ⟨rfl, hb2⟩
        obtain ⟨hc2, hf2⟩ := bcell hb2
        have hz : w.heap.size < wr.heap.size := by omega
        go_wp2_with fail
        refine (markD_c _ _ _ _ hbs (by omega)).mono ?_
        rintro e w2 ⟨rfl, hb3⟩
        go_wp2_with fail
        go_ret
        exact ⟨ret_int (by rw [hcl.out]), below_then (below_then hB0 hb2) hb3⟩
    · obtain rfl : j = l.length := by omega
      have hcl := Lib.hid (cntLe_stop hq.out hj fun y hy => by rw [List.getElem?_eq_none (Nat.le_refl _)] at hy; cases hy)
      go_wp2_with fail
      refine (markD_c _ _ _ _ hbs (by omega)).mono ?_
      rintro e w2 ⟨rfl, hb3⟩
      go_wp2_with fail
      go_ret
      exact ⟨ret_int (by rw [hcl.out]), below_then hB0 hb3⟩
end Go.Proofs.YtnedcclmfokdnaaGreat
