/- Texts joined: RefA RefB RefC. -/
import Derived.Test.YtnedcclmfokdnaaGreatRows
import Derived.Test.YtnedcclmfokdnaaGreatJ2
namespace Go.Proofs.YtnedcclmfokdnaaGreat
open Go.RowKit
theorem in_c (n lo hi : Int) (w : World) :
    Calls Tryz.prog 82 #[.int .i64 n, .int .i64 lo, .int .i64 hi] w fun e w' => e = .returned (.bool (inB n lo hi)) ∧ w = w' := by
  by_cases h1 : lo ≤ n
  · go_enter Tryz.func82, Tryz.ntmps82
    go_wp2
    go_ret
    exact ⟨ret_bool (by simp [inB, h1]), rfl⟩
  · go_enter Tryz.func82, Tryz.ntmps82
    go_wp2
    go_ret
    exact ⟨ret_bool (by simp [inB]; omega), rfl⟩
theorem span_c (lo hi most : Int) (w : World) :
    Calls Tryz.prog 149 #[.agg #[.int .i64 lo, .int .i64 hi], .int .i64 most] w fun e w' => e = .returned (.bool (spanB lo hi most)) ∧ Below w.heap.size w w' := by
  by_cases h1 : 0 ≤ lo
  · by_cases h2 : lo ≤ hi
    · go_enter Tryz.func149, Tryz.ntmps149
      go_wp2
      go_ret
      exact ⟨ret_bool (by simp [spanB, h1, h2]), below_alloc _ _⟩
    · go_enter Tryz.func149, Tryz.ntmps149
      go_wp2
      go_ret
      exact ⟨ret_bool (by simp [spanB, h1]; omega), below_alloc _ _⟩
  · go_enter Tryz.func149, Tryz.ntmps149
    go_wp2
    go_ret
    exact ⟨ret_bool (by simp [spanB]; omega), below_alloc _ _⟩
theorem load_c (k : Kl) (v : Value) (id : Int) (w : World) (hv : Kiln w v k) :
    Calls Tryz.prog 98 #[v, .int .i64 id] w fun e w' => e = .returned (.int .i64 (place k.ls id)) ∧ Below w.heap.size w w' := by
  obtain ⟨vl, vd, vw, rfl, hl, hd, _⟩ := hv
  obtain ⟨A, cap, rfl, _, hn, hat⟩ := hl.open_
  have H := Lib.hid hat
  clear hat hl hd
  go_enter Tryz.func98, Tryz.ntmps98
  go_wp2
  go_loop [5] (fun i => ∃ j : Nat, j ≤ k.ls.length ∧ i = .int .i64 j ∧ Hid (∀ (m : Nat) (x : Rec), m < j → k.ls[m]? = some x → x.id ≠ id)) (fun i => k.ls.length - (intOf i).toNat)
  case atStart => exact ⟨0, Nat.zero_le _, rfl, fun _ _ h => absurd h (by omega)⟩
  case round =>
    obtain ⟨j, hj, rfl, hq⟩ := hrel
    by_cases hlt : j < k.ls.length
    · obtain ⟨b, off, x, rfl, hb, hx0, c0, _, _, _⟩ := H.out j hlt
      have hx := Lib.hid hx0
      clear hx0
      go_wp2
      · have e : (x.id == id) = true := by assumption
        go_ret
        exact ⟨ret_int (place_some hq.out hx.out (by simpa using e)).symm, below_alloc _ _⟩
      · have e : (x.id == id) = false := by assumption
        go_round
        case rel => exact ⟨j + 1, by omega, by go_num, not_succ hq.out hx.out (by simpa using e)⟩
        case measure => simp [intOf]; omega
    · go_wp2
      go_ret
      exact ⟨ret_int (by rw [place_none]; intro m x hm; exact hq.out m x (by have := (List.getElem?_eq_some_iff.1 hm).1; omega) hm), below_alloc _ _⟩
theorem draw_c (k : Kl) (v : Value) (id : Int) (w : World) (hv : Kiln w v k) :
    Calls Tryz.prog 99 #[v, .int .i64 id] w fun e w' => e = .returned (.int .i64 (place k.ds id)) ∧ Below w.heap.size w w' := by
  obtain ⟨vl, vd, vw, rfl, hl, hd, _⟩ := hv
  obtain ⟨A, cap, rfl, _, hn, hat⟩ := hd.open_
  have H := Lib.hid hat
  clear hat hl hd
  go_enter Tryz.func99, Tryz.ntmps99
  go_wp2
  go_loop [5] (fun i => ∃ j : Nat, j ≤ k.ds.length ∧ i = .int .i64 j ∧ Hid (∀ (m : Nat) (x : Rec), m < j → k.ds[m]? = some x → x.id ≠ id)) (fun i => k.ds.length - (intOf i).toNat)
  case atStart => exact ⟨0, Nat.zero_le _, rfl, fun _ _ h => absurd h (by omega)⟩
  case round =>
    obtain ⟨j, hj, rfl, hq⟩ := hrel
    by_cases hlt : j < k.ds.length
    · obtain ⟨b, off, x, rfl, hb, hx0, c0, _, _, _⟩ := H.out j hlt
      have hx := Lib.hid hx0
      clear hx0
      go_wp2
      · have e : (x.id == id) = true := by assumption
        go_ret
        exact ⟨ret_int (place_some hq.out hx.out (by simpa using e)).symm, below_alloc _ _⟩
      · have e : (x.id == id) = false := by assumption
        go_round
        case rel => exact ⟨j + 1, by omega, by go_num, not_succ hq.out hx.out (by simpa using e)⟩
        case measure => simp [intOf]; omega
    · go_wp2
      go_ret
      exact ⟨ret_int (by rw [place_none]; intro m x hm; exact hq.out m x (by have := (List.getElem?_eq_some_iff.1 hm).1; omega) hm), below_alloc _ _⟩
theorem record_c (id hour lo hi behind : Int) (w : World) :
    Calls Tryz.prog 84 #[.int .i64 id, .int .i64 hour, .agg #[.int .i64 lo, .int .i64 hi], .int .i64 behind] w fun e w' => e = .returned (.bool (recordB id hour lo hi behind)) ∧ Below w.heap.size w w' := by
  rcases Bool.eq_false_or_eq_true (spanB lo hi 1048576) with h1 | h1
  · rcases Bool.eq_false_or_eq_true (inB id 1 1099511627776) with h2 | h2
    · go_enter Tryz.func84, Tryz.ntmps84
      go_wp2_with fail
      refine (span_c _ _ _ _).mono ?_
      rintro e w1 ⟨rfl, hb⟩
      go_wp2_with fail
      refine (in_c _ _ _ _).mono ?_
      rintro e w2 ⟨rfl, rfl⟩
      go_wp2_with fail
      all_goals
        have hm : behind ≤ 0 ∨ 0 < behind := by omega
        refine (in_c _ _ _ _).mono ?_
        rintro e w2 ⟨rfl, rfl⟩
        go_wp2_with fail
        go_ret
        exact ⟨ret_bool (by simp [recordB, h1, h2]; congr 1; omega), below_then (below_alloc _ _) hb⟩
    · go_enter Tryz.func84, Tryz.ntmps84
      go_wp2_with fail
      refine (span_c _ _ _ _).mono ?_
      rintro e w1 ⟨rfl, hb⟩
      go_wp2_with fail
      refine (in_c _ _ _ _).mono ?_
      rintro e w2 ⟨rfl, rfl⟩
      go_wp2_with fail
      go_ret
      exact ⟨ret_bool (by simp [recordB, h1, h2]), below_then (below_alloc _ _) hb⟩
  · go_enter Tryz.func84, Tryz.ntmps84
    go_wp2_with fail
    refine (span_c _ _ _ _).mono ?_
    rintro e w1 ⟨rfl, hb⟩
    go_wp2_with fail
    go_ret
    exact ⟨ret_bool (by simp [recordB, h1]), below_then (below_alloc _ _) hb⟩
theorem weigh_c (k : Kl) (v : Value) (g : Wg) (w : World) (hv : Kiln w v k) :
    Calls Tryz.prog 85 #[v, .agg #[.int .i64 g.id, .int .i64 g.kind, .int .i64 g.frm, .int .i64 g.too, .int .i64 g.lo, .int .i64 g.hi]] w fun e w' => e = .returned (.bool (weighB k g)) ∧ Below w.heap.size w w' := by
  obtain ⟨vl, vd, vw, rfl, hl, hd, hw⟩ := id hv
  obtain ⟨id, kind, frm, too, lo, hi⟩ := g
  dsimp only
  rcases Bool.eq_false_or_eq_true (spanB lo hi 16777216) with h1 | h1
  · rcases Bool.eq_false_or_eq_true (inB id 1 1099511627776) with h2 | h2
    · by_cases k1 : kind = 1
      · subst k1
        by_cases h3 : 0 ≤ place k.ls frm
        all_goals
          go_enter Tryz.func85, Tryz.ntmps85
          go_wp2_with fail
          refine (span_c _ _ _ _).mono ?_
          rintro e w1 ⟨rfl, hb⟩
          obtain ⟨hc, hf⟩ := bcell hb
          have hz : w.heap.size + 1 < w1.heap.size := by have := hb.size; simp at this; omega
          have hz0 : w.heap.size < w1.heap.size := by omega
          have hB := below_then (below_then (below_alloc _ _) (below_alloc _ _)) hb
          have hv1 := hv.later hB
          go_wp2_with fail
          refine (in_c _ _ _ _).mono ?_
          rintro e w2 ⟨rfl, rfl⟩
          go_wp2_with fail
          refine (load_c k _ _ _ hv1).mono ?_
          rintro e w2 ⟨rfl, hb2⟩
          obtain ⟨hc2, hf2⟩ := bcell hb2
          have hv2 := hv1.later hb2
          have hz2 := hb2.size
          go_wp2_with fail
          refine (load_c k _ _ _ hv2).mono ?_
          rintro e w3 ⟨rfl, hb3⟩
          go_wp2_with fail
          go_ret
          exact ⟨ret_bool (by simp [weighB, h1, h2]; try omega), below_then (below_then hB hb2) hb3⟩
      by_cases k2 : kind = 2
      · subst k2
        by_cases h3 : 0 ≤ place k.ds frm
        all_goals
          go_enter Tryz.func85, Tryz.ntmps85
          go_wp2_with fail
          refine (span_c _ _ _ _).mono ?_
          rintro e w1 ⟨rfl, hb⟩
          obtain ⟨hc, hf⟩ := bcell hb
          have hz : w.heap.size + 1 < w1.heap.size := by have := hb.size; simp at this; omega
          have hz0 : w.heap.size < w1.heap.size := by omega
          have hB := below_then (below_then (below_alloc _ _) (below_alloc _ _)) hb
          have hv1 := hv.later hB
          go_wp2_with fail
          refine (in_c _ _ _ _).mono ?_
          rintro e w2 ⟨rfl, rfl⟩
          go_wp2_with fail
          refine (draw_c k _ _ _ hv1).mono ?_
          rintro e w2 ⟨rfl, hb2⟩
          obtain ⟨hc2, hf2⟩ := bcell hb2
          have hv2 := hv1.later hb2
          have hz2 := hb2.size
          go_wp2_with fail
          refine (draw_c k _ _ _ hv2).mono ?_
          rintro e w3 ⟨rfl, hb3⟩
          go_wp2_with fail
          go_ret
          exact ⟨ret_bool (by simp [weighB, h1, h2]; try omega), below_then (below_then hB hb2) hb3⟩
      by_cases k3 : kind = 3
      · subst k3
        rcases Bool.eq_false_or_eq_true (inB frm 0 16384) with h3 | h3
        all_goals
          go_enter Tryz.func85, Tryz.ntmps85
          go_wp2_with fail
          refine (span_c _ _ _ _).mono ?_
          rintro e w1 ⟨rfl, hb⟩
          obtain ⟨hc, hf⟩ := bcell hb
          have hz : w.heap.size + 1 < w1.heap.size := by have := hb.size; simp at this; omega
          have hz0 : w.heap.size < w1.heap.size := by omega
          have hB := below_then (below_then (below_alloc _ _) (below_alloc _ _)) hb
          have hv1 := hv.later hB
          go_wp2_with fail
          refine (in_c _ _ _ _).mono ?_
          rintro e w2 ⟨rfl, rfl⟩
          go_wp2_with fail
          refine (in_c _ _ _ _).mono ?_
          rintro e w2 ⟨rfl, rfl⟩
          go_wp2_with fail
          go_ret
          exact ⟨ret_bool (by simp [weighB, h1, h2, h3]), hB⟩
      go_enter Tryz.func85, Tryz.ntmps85
      go_wp2_with fail
      refine (span_c _ _ _ _).mono ?_
      rintro e w1 ⟨rfl, hb⟩
      obtain ⟨hc, hf⟩ := bcell hb
      have hz : w.heap.size + 1 < w1.heap.size := by have := hb.size; simp at this; omega
      have hz0 : w.heap.size < w1.heap.size := by omega
      have hB := below_then (below_then (below_alloc _ _) (below_alloc _ _)) hb
      have hv1 := hv.later hB
      go_wp2_with fail
      refine (in_c _ _ _ _).mono ?_
      rintro e w2 ⟨rfl, rfl⟩
      go_wp2_with fail
      go_ret
      exact ⟨ret_bool (by simp [weighB, k1, k2, k3]), hB⟩
    · go_enter Tryz.func85, Tryz.ntmps85
      go_wp2_with fail
      refine (span_c _ _ _ _).mono ?_
      rintro e w1 ⟨rfl, hb⟩
      obtain ⟨hc, hf⟩ := bcell hb
      have hz : w.heap.size + 1 < w1.heap.size := by have := hb.size; simp at this; omega
      have hz0 : w.heap.size < w1.heap.size := by omega
      go_wp2_with fail
      refine (in_c _ _ _ _).mono ?_
      rintro e w2 ⟨rfl, rfl⟩
      go_wp2_with fail
      go_ret
      exact ⟨ret_bool (by simp [weighB, h2]), below_then (below_then (below_alloc _ _) (below_alloc _ _)) hb⟩
  · go_enter Tryz.func85, Tryz.ntmps85
    go_wp2_with fail
    refine (span_c _ _ _ _).mono ?_
    rintro e w1 ⟨rfl, hb⟩
    go_wp2_with fail
    go_ret
    exact ⟨ret_bool (by simp [weighB, h1]), below_then (below_then (below_alloc _ _) (below_alloc _ _)) hb⟩
end Go.Proofs.YtnedcclmfokdnaaGreat
namespace Go.Proofs.YtnedcclmfokdnaaGreat
open Go.RowKit
theorem mark_c (k : Kl) (v : Value) (n : Int) (w : World) (h0 : -1 ≤ n) (h1 : n ≤ 140737488355329) (hv : Kiln w v k) :
    Calls Tryz.prog 101 #[v, .int .i64 n] w fun e w' => e = .returned (.int .i64 (markI k n)) ∧ Below w.heap.size w w' := by
  obtain ⟨vl, vd, vw, rfl, hl, _, _⟩ := id hv
  obtain ⟨A, cap, rfl, _, hn, _⟩ := hl.open_
  by_cases hz : n = 0
  · subst hz
    go_enter Tryz.func101, Tryz.ntmps101
    go_wp2
    go_ret
    exact ⟨ret_int (by simp [markI]), below_alloc _ _⟩
  · go_enter Tryz.func101, Tryz.ntmps101
    go_wp2
    go_ret
    exact ⟨ret_int (by simp [markI, hz]), below_alloc _ _⟩
theorem charged_c (k : Kl) (v : Value) (h : Int) (w : World) (hv : Kiln w v k) :
    Calls Tryz.prog 109 #[v, .int .i64 h] w fun e w' => e = .returned (.int .i64 (chargedI k h)) ∧ Below w.heap.size w w' := by
  obtain ⟨vl, vd, vw, rfl, hl, hd, hw⟩ := id hv
  obtain ⟨A, cap, rfl, _, hn, hat⟩ := hl.open_
  have H := Lib.hid hat
  clear hat
  go_enter Tryz.func109, Tryz.ntmps109
  go_wp2
  go_loop [5, 6] (fun c i => ∃ j : Nat, j ≤ k.ls.length ∧ i = .int .i64 j ∧ c = .int .i64 (lastLe k.ls h j : Nat)) (fun _ i => k.ls.length - (intOf i).toNat)
  case atStart => exact ⟨0, Nat.zero_le _, rfl, rfl⟩
  case round =>
    obtain ⟨j, hj, rfl, rfl⟩ := hrel
    by_cases hlt : j < k.ls.length
    · obtain ⟨b, off, x, rfl, hb, hx0, _, c1, _, _⟩ := H.out j hlt
      have hx := Lib.hid hx0
      clear hx0
      by_cases hh : x.hour ≤ h
      · have hY := Lib.hid (lastLe_yes hx.out hh)
        go_wp2
        go_round
        case rel => exact ⟨j + 1, by omega, by go_num, by rw [hY.out]; go_num⟩
        case measure => simp [intOf]; omega
      · have hY := Lib.hid (lastLe_no hx.out hh)
        go_wp2
        go_round
        case rel => exact ⟨j + 1, by omega, by go_num, by rw [hY.out]⟩
        case measure => simp [intOf]; omega
    · obtain rfl : j = k.ls.length := by omega
      have hle := lastLe_le k.ls h k.ls.length
      go_wp2_with fail
      go_ret
      exact ⟨rfl, below_alloc _ _⟩
theorem drawn_c (k : Kl) (v : Value) (h : Int) (w : World) (hv : Kiln w v k) :
    Calls Tryz.prog 108 #[v, .int .i64 h] w fun e w' => e = .returned (.int .i64 (drawnI k h)) ∧ Below w.heap.size w w' := by
  obtain ⟨vl, vd, vw, rfl, hl, hd, hw⟩ := id hv
  obtain ⟨A, cap, rfl, _, hn, hat⟩ := hd.open_
  have H := Lib.hid hat
  clear hat
  go_enter Tryz.func108, Tryz.ntmps108
  go_wp2
  go_loop [5, 6] (fun c i => ∃ j : Nat, j ≤ k.ds.length ∧ i = .int .i64 j ∧ c = .int .i64 (lastLe k.ds h j : Nat)) (fun _ i => k.ds.length - (intOf i).toNat)
  case atStart => exact ⟨0, Nat.zero_le _, rfl, rfl⟩
  case round =>
    obtain ⟨j, hj, rfl, rfl⟩ := hrel
    by_cases hlt : j < k.ds.length
    · obtain ⟨b, off, x, rfl, hb, hx0, _, c1, _, _⟩ := H.out j hlt
      have hx := Lib.hid hx0
      clear hx0
      by_cases hh : x.hour ≤ h
      · have hY := Lib.hid (lastLe_yes hx.out hh)
        go_wp2
        go_round
        case rel => exact ⟨j + 1, by omega, by go_num, by rw [hY.out]; go_num⟩
        case measure => simp [intOf]; omega
      · have hY := Lib.hid (lastLe_no hx.out hh)
        go_wp2
        go_round
        case rel => exact ⟨j + 1, by omega, by go_num, by rw [hY.out]⟩
        case measure => simp [intOf]; omega
    · obtain rfl : j = k.ds.length := by omega
      have hle := lastLe_le k.ds h k.ds.length
      go_wp2_with fail
      refine (mark_c k _ _ _ (by omega) (by omega) (hv.later (below_alloc _ _))).mono ?_
      rintro e w' ⟨rfl, hb⟩
      go_wp2_with fail
      go_ret
      exact ⟨rfl, below_then (below_alloc _ _) hb⟩
theorem ends_c (k : Kl) (v : Value) (g : Wg) (w : World) (hv : Kiln w v k) :
    Calls Tryz.prog 138 #[v, .agg #[.int .i64 g.id, .int .i64 g.kind, .int .i64 g.frm, .int .i64 g.too, .int .i64 g.lo, .int .i64 g.hi]] w
      fun e w' => e = .returned (.tuple #[.int .i64 (endsI k g).1, .int .i64 (endsI k g).2]) ∧ Below w.heap.size w w' := by
  obtain ⟨vl, vd, vw, rfl, hl, hd, hw⟩ := id hv
  obtain ⟨id, kind, frm, too, lo, hi⟩ := g
  dsimp only
  by_cases k1 : kind = 1
  · subst k1
    have p1 := place_range k.ls too
    have hlen : k.ls.length ≤ 140737488355328 := by obtain ⟨_, _, _, _, h, _⟩ := hl.open_; exact h
    go_enter Tryz.func138, Tryz.ntmps138
    go_wp2_with fail
    refine wp_region_grown (by kernel_rfl) (by kernel_rfl) fun hcg => ?_
    repeat (go_big_quiet_step ((go_at_call 98; exact Calls.grown (load_c k _ _ _ (hv.later (below_then (below_then (below_alloc _ _) (below_alloc _ _)) (Gr.b _)))))))
    refine wpQuiet_nil ?_
    intro _ hw'
    obtain ⟨g, hw''⟩ := hw'
    subst hw''
    go_wp2_with fail
    go_ret2
    exact ⟨rfl, below_then (below_then (below_alloc _ _) (below_alloc _ _)) g.b⟩
  · by_cases k2 : kind = 2
    · subst k2
      have p1 := place_range k.ds frm
      have p2 := place_range k.ds too
      have hlen : k.ds.length ≤ 140737488355328 := by obtain ⟨_, _, _, _, h, _⟩ := hd.open_; exact h
      go_enter Tryz.func138, Tryz.ntmps138
      go_wp2_with fail
      refine wp_region_grown (by kernel_rfl) (by kernel_rfl) fun hcg => ?_
      repeat (go_big_quiet_step (first | (go_at_call 99; exact Calls.grown (draw_c k _ _ _ (hv.later (below_then (below_then (below_alloc _ _) (below_alloc _ _)) (Gr.b _))))) | (go_at_call 101; exact Calls.grown (mark_c k _ _ _ (by omega) (by omega) (hv.later (below_then (below_then (below_alloc _ _) (below_alloc _ _)) (Gr.b _)))))))
      refine wpQuiet_nil ?_
      intro _ hw'
      obtain ⟨g, hw''⟩ := hw'
      subst hw''
      go_wp2_with fail
      go_ret2
      exact ⟨rfl, below_then (below_then (below_alloc _ _) (below_alloc _ _)) g.b⟩
    · go_enter Tryz.func138, Tryz.ntmps138
      go_wp2_with fail
      refine wp_region_grown (by kernel_rfl) (by kernel_rfl) fun hcg => ?_
      repeat (go_big_quiet_step (first | (go_at_call 108; exact Calls.grown (drawn_c k _ _ _ (hv.later (below_then (below_then (below_alloc _ _) (below_alloc _ _)) (Gr.b _))))) | (go_at_call 109; exact Calls.grown (charged_c k _ _ _ (hv.later (below_then (below_then (below_alloc _ _) (below_alloc _ _)) (Gr.b _)))))))
      refine wpQuiet_nil ?_
      intro _ hw'
      obtain ⟨g, hw''⟩ := hw'
      subst hw''
      go_wp2_with fail
      go_ret2
      exact ⟨by rw [show endsI k ⟨id, kind, frm, too, lo, hi⟩ = (drawnI k frm, chargedI k frm) by simp [endsI, k1, k2]]; rfl, below_then (below_then (below_alloc _ _) (below_alloc _ _)) g.b⟩
theorem first_c (v : Value) (l : List Int) (a : Nat) (w : World) (ha : a < l.length) (hv : Ints w w.heap.size v l) :
    Calls Tryz.prog 86 #[v, .int .i64 a] w fun e w' => e = .returned (.bool (aheadB l a)) ∧ Below w.heap.size w w' := by
  obtain ⟨A, cap, rfl, _, hn, hat⟩ := hv.open_
  obtain ⟨b, off, y, rfl, hb, hy0, cy⟩ := hat a ha
  have H := Lib.hid hat
  have HY := Lib.hid hy0
  clear hat hy0
  go_enter Tryz.func86, Tryz.ntmps86
  go_wp2
  go_loopw [5] (fun i wr => ∃ j n : Nat, j ≤ a ∧ i = .int .i64 j ∧ wr = w.drewN n ∧ Hid (∀ (m : Nat) (x : Int), m < j → l[m]? = some x → x ≠ y)) (fun i _ => a - (intOf i).toNat)
  case atStart => exact ⟨0, 0, Nat.zero_le _, rfl, rfl, fun _ _ h => absurd h (by omega)⟩
  case round =>
    obtain ⟨j, n, hj, rfl, rfl, hq⟩ := hrel
    by_cases hlt : j < a
    · obtain ⟨b', off', x, e, _, hx0, cx⟩ := H.out j (by omega)
      cases e
      have hx := Lib.hid hx0
      clear hx0
      go_wp2_with fail
      go_quiet (fail)
      go_wp2
      · have e : (x == y) = true := by assumption
        go_ret
        exact ⟨ret_bool (firstB_no HY.out hx.out hlt (by simpa using e)).symm, below_drewN (below_drewN (Below.refl _ _) _) _⟩
      · have e : (x == y) = false := by assumption
        go_roundw
        case rel => exact ⟨j + 1, n + nq, by omega, by go_num, by simp, fun m z hm hz => by
          by_cases e' : m = j
          · subst e'; rw [hx.out] at hz; cases hz; simpa using e
          · exact hq.out m z (by omega) hz⟩
        case measure => simp [intOf]; omega
    · go_wp2
      go_ret
      exact ⟨ret_bool (firstB_yes HY.out fun m z hm hz => hq.out m z (by omega) hz).symm, below_drewN (Below.refl _ _) _⟩
theorem Tryz.info3 : (Tryz.prog.info? 3).map (fun i => (i.zero, i.size, i.bytes)) = some (some (.int .i64 0), 1, 8) := by kernel_rfl
theorem ids_c (k : Kl) (v : Value) (w : World) (hv : Kiln w v k) (hsm : k.ls.length + k.ds.length + k.ws.length ≤ 1000000) :
    Calls Tryz.prog 83 #[v] w fun e w' => ∃ u, e = .returned u ∧ Ints w' w'.heap.size u (allIds k) ∧ Below w.heap.size w w' := by
  obtain ⟨vl, vd, vw, rfl, hl, hd, hw⟩ := id hv
  obtain ⟨A, cap, rfl, _, hn, hat⟩ := hl.open_
  obtain ⟨A2, cap2, rfl, _, hn2, hat2⟩ := hd.open_
  obtain ⟨A3, cap3, rfl, _, hn3, hat3⟩ := hw.open_
  have H := Lib.hid hat
  have H2 := Lib.hid hat2
  have H3 := Lib.hid hat3
  clear hat hat2 hat3
  obtain ⟨i0, hi, hz0, hz1, hz2⟩ := info_parts Tryz.info3
  have HI := Lib.hid hi
  have HI0 := Lib.hid hz0
  have HI1 := Lib.hid hz1
  have HI2 := Lib.hid hz2
  clear hi hz0 hz1 hz2
  go_enter Tryz.func83, Tryz.ntmps83
  go_wp2
  go_loopw [3, 4] (fun v i wr => ∃ j : Nat, j ≤ k.ls.length ∧ i = .int .i64 j ∧ wr.ownsRow (w.heap.size + 1) 3 1 v (0 + j) ((([] : List Int) ++ (k.ls.take j).map (·.id)).map (Value.int .i64)) ∧ Below (w.heap.size + 1) (w.alloc (.cells #[.int .i64 k.room, .int .i64 k.per, .slice A k.ls.length cap, .slice A2 k.ds.length cap2, .slice A3 k.ws.length cap3] 26)) wr) (fun _ i _ => k.ls.length - (intOf i).toNat)
  case atStart => exact ⟨0, Nat.zero_le _, rfl, by simpa using World.ownsRow_nil _ _ _ _, Below.refl _ _⟩
  case round =>
    obtain ⟨j, hj, rfl, hown, hbw⟩ := hrel
    obtain ⟨hc, hf⟩ := bcellB hbw
    have hbs := hbw.size
    by_cases hlt : j < k.ls.length
    · obtain ⟨b, off, x, rfl, hb, hx0, c0, _, _, _⟩ := H.out j hlt
      have hx := Lib.hid hx0
      clear hx0
      have hb1 : b < w.heap.size + 1 := by omega
      go_wp2_with (at_builtin; refine wpList_append_own _ rfl _ _ 27 rfl (w.heap.size + 1) 3 i0 (.int .i64 0) 1 8 Tryz.underlying27 HI.out HI0.out HI1.out HI2.out rfl (by decide) _ _ _ rfl (hown.alloc _) ⟨wr.heap.size, 0, none⟩ 1 1 [.int .i64 x.id] rfl rfl (cell_one_new _ _ _) (one_oneCell rfl) ?c3 ?c4 ?c5 ?_)
      case c3 => unfold maxLen; omega
      case c4 => omega
      case c5 => simp at hbs ⊢; omega
      intro v' w1 hown' hgrow _
      have hB1 := below_append hbw (by simp at hbs; omega) hown hgrow
      clear hgrow hown hc hf hbw hbs
      go_wp2
      go_roundw
      case rel => exact ⟨j + 1, by omega, by go_num, by simpa [take_snoc hx.out, Nat.add_assoc] using hown', hB1⟩
      case measure => simp [intOf]; omega
    · obtain rfl : j = k.ls.length := by omega
      rw [List.take_length] at hown
      go_wp2
      go_loopw [3, 5] (fun v i wr => ∃ j : Nat, j ≤ k.ds.length ∧ i = .int .i64 j ∧ wr.ownsRow (w.heap.size + 1) 3 1 v (k.ls.length + j) ((k.ls.map (·.id) ++ (k.ds.take j).map (·.id)).map (Value.int .i64)) ∧ Below (w.heap.size + 1) (w.alloc (.cells #[.int .i64 k.room, .int .i64 k.per, .slice A k.ls.length cap, .slice A2 k.ds.length cap2, .slice A3 k.ws.length cap3] 26)) wr) (fun _ i _ => k.ds.length - (intOf i).toNat)
      case atStart => exact ⟨0, Nat.zero_le _, rfl, by simpa using hown, hbw⟩
      case round =>
        obtain ⟨j, hj, rfl, hown, hbw⟩ := hrel
        obtain ⟨hc, hf⟩ := bcellB hbw
        have hbs := hbw.size
        by_cases hlt : j < k.ds.length
        · obtain ⟨b, off, x, rfl, hb, hx0, c0, _, _, _⟩ := H2.out j hlt
          have hx := Lib.hid hx0
          clear hx0
          have hb1 : b < w.heap.size + 1 := by omega
          go_wp2_with (at_builtin; refine wpList_append_own _ rfl _ _ 27 rfl (w.heap.size + 1) 3 i0 (.int .i64 0) 1 8 Tryz.underlying27 HI.out HI0.out HI1.out HI2.out rfl (by decide) _ _ _ rfl (hown.alloc _) ⟨wr.heap.size, 0, none⟩ 1 1 [.int .i64 x.id] rfl rfl (cell_one_new _ _ _) (one_oneCell rfl) ?c3 ?c4 ?c5 ?_)
          case c3 => unfold maxLen; omega
          case c4 => omega
          case c5 => simp at hbs ⊢; omega
          intro v' w1 hown' hgrow _
          have hB1 := below_append hbw (by simp at hbs; omega) hown hgrow
          clear hgrow hown hc hf hbw hbs
          go_wp2
          go_roundw
          case rel => exact ⟨j + 1, by omega, by go_num, by simpa [take_snoc hx.out, Nat.add_assoc] using hown', hB1⟩
          case measure => simp [intOf]; omega
        · obtain rfl : j = k.ds.length := by omega
          rw [List.take_length] at hown
          go_wp2
          go_loopw [3, 6] (fun v i wr => ∃ j : Nat, j ≤ k.ws.length ∧ i = .int .i64 j ∧ wr.ownsRow (w.heap.size + 1) 3 1 v (k.ls.length + k.ds.length + j) (((k.ls.map (·.id) ++ k.ds.map (·.id)) ++ (k.ws.take j).map (·.id)).map (Value.int .i64)) ∧ Below (w.heap.size + 1) (w.alloc (.cells #[.int .i64 k.room, .int .i64 k.per, .slice A k.ls.length cap, .slice A2 k.ds.length cap2, .slice A3 k.ws.length cap3] 26)) wr) (fun _ i _ => k.ws.length - (intOf i).toNat)
          case atStart => exact ⟨0, Nat.zero_le _, rfl, by simpa using hown, hbw⟩
          case round =>
            obtain ⟨j, hj, rfl, hown, hbw⟩ := hrel
            obtain ⟨hc, hf⟩ := bcellB hbw
            have hbs := hbw.size
            by_cases hlt : j < k.ws.length
            · obtain ⟨b, off, x, rfl, hb, hx0, c0, _, _, _, _, _⟩ := H3.out j hlt
              have hx := Lib.hid hx0
              clear hx0
              have hb1 : b < w.heap.size + 1 := by omega
              go_wp2_with (at_builtin; refine wpList_append_own _ rfl _ _ 27 rfl (w.heap.size + 1) 3 i0 (.int .i64 0) 1 8 Tryz.underlying27 HI.out HI0.out HI1.out HI2.out rfl (by decide) _ _ _ rfl (hown.alloc _) ⟨wr.heap.size, 0, none⟩ 1 1 [.int .i64 x.id] rfl rfl (cell_one_new _ _ _) (one_oneCell rfl) ?c3 ?c4 ?c5 ?_)
              case c3 => unfold maxLen; omega
              case c4 => omega
              case c5 => simp at hbs ⊢; omega
              intro v' w1 hown' hgrow _
              have hB1 := below_append hbw (by simp at hbs; omega) hown hgrow
              clear hgrow hown hc hf hbw hbs
              go_wp2
              go_roundw
              case rel => exact ⟨j + 1, by omega, by go_num, by simpa [take_snoc hx.out, Nat.add_assoc] using hown', hB1⟩
              case measure => simp [intOf]; omega
            · obtain rfl : j = k.ws.length := by omega
              rw [List.take_length] at hown
              go_wp2
              go_ret
              refine ⟨_, rfl, Ints.of_own (base := w.heap.size + 1) (e := 3) ?_ ?_, below_then (below_alloc _ _) (hbw.mono (by simp))⟩
              · rw [show (allIds k).length = k.ls.length + k.ds.length + k.ws.length by simp [allIds, Nat.add_assoc]]; exact hown
              · simp [allIds]; omega
end Go.Proofs.YtnedcclmfokdnaaGreat
namespace Go.Proofs.YtnedcclmfokdnaaGreat
open Go.RowKit
set_option maxHeartbeats 4000000 in
set_option maxRecDepth 100000 in
theorem rcheck_c (k : Kl) (v : Value) (w : World) (hv : Kiln w v k) :
    Calls Tryz.prog 23 #[v] w fun e w' => e = .returned (.int .i64 (checkI k)) ∧ Below w.heap.size w w' := by
  obtain ⟨vl, vd, vw, rfl, hl, hd, hw⟩ := id hv
  obtain ⟨A, cap, rfl, _, hn, hat⟩ := hl.open_
  obtain ⟨A2, cap2, rfl, _, hn2, hat2⟩ := hd.open_
  obtain ⟨A3, cap3, rfl, _, hn3, hat3⟩ := hw.open_
  have H := Lib.hid hat
  have H2 := Lib.hid hat2
  have H3 := Lib.hid hat3
  clear hat hat2 hat3
  rcases Bool.eq_false_or_eq_true (inB k.room 0 16777216) with h1 | h1
  · rcases Bool.eq_false_or_eq_true (inB k.per 1 65536) with h2 | h2
    · by_cases h3 : 20 < k.ls.length
      · go_enter Tryz.func23, Tryz.ntmps23
        go_wp2_with fail
        refine (in_c _ _ _ _).mono ?_
        rintro e w1 ⟨rfl, rfl⟩
        go_wp2_with fail
        refine (in_c _ _ _ _).mono ?_
        rintro e w1 ⟨rfl, rfl⟩
        go_wp2_with fail
        go_ret
        exact ⟨ret_int (by rw [checkI, if_neg (by simp [h1, h2]), if_pos (by omega)]), below_alloc _ _⟩
      · by_cases h4 : 20 < k.ds.length
        · go_enter Tryz.func23, Tryz.ntmps23
          go_wp2_with fail
          refine (in_c _ _ _ _).mono ?_
          rintro e w1 ⟨rfl, rfl⟩
          go_wp2_with fail
          refine (in_c _ _ _ _).mono ?_
          rintro e w1 ⟨rfl, rfl⟩
          go_wp2_with fail
          go_ret
          exact ⟨ret_int (by rw [checkI, if_neg (by simp [h1, h2]), if_pos (by omega)]), below_alloc _ _⟩
        · by_cases h5 : 20 < k.ws.length
          · go_enter Tryz.func23, Tryz.ntmps23
            go_wp2_with fail
            refine (in_c _ _ _ _).mono ?_
            rintro e w1 ⟨rfl, rfl⟩
            go_wp2_with fail
            refine (in_c _ _ _ _).mono ?_
            rintro e w1 ⟨rfl, rfl⟩
            go_wp2_with fail
            go_ret
            exact ⟨ret_int (by rw [checkI, if_neg (by simp [h1, h2]), if_pos (by omega)]), below_alloc _ _⟩
          · go_enter Tryz.func23, Tryz.ntmps23
            go_wp2_with fail
            refine (in_c _ _ _ _).mono ?_
            rintro e w1 ⟨rfl, rfl⟩
            go_wp2_with fail
            refine (in_c _ _ _ _).mono ?_
            rintro e w1 ⟨rfl, rfl⟩
            go_wp2_with fail
            refine (ids_c k _ _ (hv.later (below_alloc _ _)) (by omega)).mono ?_
            rintro e w2 ⟨u, rfl, hu, hb2⟩
            obtain ⟨A4, cap4, rfl, _, hn4, hat4⟩ := id hu
            have hA := allIds_len k
            have HA := Lib.hid hA
            clear hA
            go_wp2_with fail
            obtain ⟨hc2, hf2⟩ := bcell hb2
            have hs2 := hb2.size
            have hz2 : w.heap.size < w2.heap.size := by simp at hs2; omega
            have hB0 := below_then (below_alloc _ _) hb2
            go_loopw [4] (fun i wr => ∃ j : Nat, j ≤ (allIds k).length ∧ i = .int .i64 j ∧ Hid (∀ m, m < j → errAt k m = 0) ∧ Below w2.heap.size w2 wr) (fun i _ => (allIds k).length - (intOf i).toNat)
            case atStart => exact ⟨0, Nat.zero_le _, rfl, fun _ h => absurd h (by omega), Below.refl _ _⟩
            case round =>
              obtain ⟨j, hj, rfl, hq, hbw⟩ := hrel
              obtain ⟨hc, hf⟩ := bcell hbw
              have hzw := hbw.size
              have hzr : w.heap.size < wr.heap.size := by omega
              by_cases hlt : j < (allIds k).length
              · have hlt2 : j < k.ls.length + k.ds.length + k.ws.length := by rw [← HA.out]; exact hlt
                by_cases hA : j < k.ls.length
                · obtain ⟨b, off, x, rfl, hb, hx0, c0, c1, c2, c3⟩ := H.out j hA
                  have hbz : b < w2.heap.size := by omega
                  have hbr : b < wr.heap.size := by omega
                  have HX := Lib.hid hx0
                  clear hx0
                  have hj0 : j ≤ 0 ∨ (1 ≤ j ∧ j ≤ 1) ∨ 2 ≤ j := by omega
                  rcases hj0 with hj0 | ⟨hj1, hj2⟩ | hj2
                  · have HO := Lib.hid ((okAt_load hA HX.out).trans (by rw [behind_first (by omega)]))
                    rcases Bool.eq_false_or_eq_true (recordB x.id x.hour x.lo x.hi 0) with q1 | q1
                    · rcases Bool.eq_false_or_eq_true (aheadB (allIds k) j) with q2 | q2
                      · have HE := Lib.hid (errAt_ok HO.out q1 q2)
                        go_wp2_with fail
                        refine (record_c _ _ _ _ _ _).mono ?_
                        rintro e w9 ⟨rfl, hb9⟩
                        have hB9 := below_then (below_then hbw (below_alloc _ _)) hb9
                        have hu9 := hu.later hB9
                        go_wp2_with fail
                        refine (first_c _ _ j _ hlt hu9).mono ?_
                        rintro e w8 ⟨rfl, hb8⟩
                        go_wp2_with fail
                        go_roundw
                        case rel => exact ⟨j + 1, by omega, by go_num, fun m hm => by
                          by_cases e' : m = j
                          · subst e'; exact HE.out
                          · exact hq.out m (by omega), below_then hB9 hb8⟩
                        case measure => simp [intOf]; omega
                      · have HE := Lib.hid (errAt_twice HO.out q1 q2)
                        go_wp2_with fail
                        refine (record_c _ _ _ _ _ _).mono ?_
                        rintro e w9 ⟨rfl, hb9⟩
                        have hB9 := below_then (below_then hbw (below_alloc _ _)) hb9
                        have hu9 := hu.later hB9
                        go_wp2_with fail
                        refine (first_c _ _ j _ hlt hu9).mono ?_
                        rintro e w8 ⟨rfl, hb8⟩
                        go_wp2_with fail
                        go_ret
                        exact ⟨ret_int (check_at h1 h2 (by omega) (by omega) (by omega) hlt hq.out HE.out (by decide)).symm, below_then hB0 (below_then hB9 hb8)⟩
                    · have HE := Lib.hid (errAt_no HO.out q1)
                      go_wp2_with fail
                      refine (record_c _ _ _ _ _ _).mono ?_
                      rintro e w9 ⟨rfl, hb9⟩
                      have hB9 := below_then (below_then hbw (below_alloc _ _)) hb9
                      have hu9 := hu.later hB9
                      go_wp2_with fail
                      go_ret
                      exact ⟨ret_int (check_at h1 h2 (by omega) (by omega) (by omega) hlt hq.out HE.out (by decide)).symm, below_then hB0 hB9⟩
                  · obtain ⟨b', off', y, e', hb', hy0, _, cy, _, _⟩ := H.out 0 (by omega)
                    cases e'
                    simp only [Nat.zero_mul, Nat.add_zero] at cy
                    have HO := Lib.hid ((okAt_load hA HX.out).trans (by rw [behind_next (m := 0) (by omega) hy0]))
                    rcases Bool.eq_false_or_eq_true (recordB x.id x.hour x.lo x.hi y.hour) with q1 | q1
                    · rcases Bool.eq_false_or_eq_true (aheadB (allIds k) j) with q2 | q2
                      · have HE := Lib.hid (errAt_ok HO.out q1 q2)
                        go_wp2_with fail
                        refine (record_c _ _ _ _ _ _).mono ?_
                        rintro e w9 ⟨rfl, hb9⟩
                        have hB9 := below_then (below_then hbw (below_alloc _ _)) hb9
                        have hu9 := hu.later hB9
                        go_wp2_with fail
                        refine (first_c _ _ j _ hlt hu9).mono ?_
                        rintro e w8 ⟨rfl, hb8⟩
                        go_wp2_with fail
                        go_roundw
                        case rel => exact ⟨j + 1, by omega, by go_num, fun m hm => by
                          by_cases e' : m = j
                          · subst e'; exact HE.out
                          · exact hq.out m (by omega), below_then hB9 hb8⟩
                        case measure => simp [intOf]; omega
                      · have HE := Lib.hid (errAt_twice HO.out q1 q2)
                        go_wp2_with fail
                        refine (record_c _ _ _ _ _ _).mono ?_
                        rintro e w9 ⟨rfl, hb9⟩
                        have hB9 := below_then (below_then hbw (below_alloc _ _)) hb9
                        have hu9 := hu.later hB9
                        go_wp2_with fail
                        refine (first_c _ _ j _ hlt hu9).mono ?_
                        rintro e w8 ⟨rfl, hb8⟩
                        go_wp2_with fail
                        go_ret
                        exact ⟨ret_int (check_at h1 h2 (by omega) (by omega) (by omega) hlt hq.out HE.out (by decide)).symm, below_then hB0 (below_then hB9 hb8)⟩
                    · have HE := Lib.hid (errAt_no HO.out q1)
                      go_wp2_with fail
                      refine (record_c _ _ _ _ _ _).mono ?_
                      rintro e w9 ⟨rfl, hb9⟩
                      have hB9 := below_then (below_then hbw (below_alloc _ _)) hb9
                      have hu9 := hu.later hB9
                      go_wp2_with fail
                      go_ret
                      exact ⟨ret_int (check_at h1 h2 (by omega) (by omega) (by omega) hlt hq.out HE.out (by decide)).symm, below_then hB0 hB9⟩
                  · obtain ⟨b', off', y, e', hb', hy0, _, cy, _, _⟩ := H.out (j - 1) (by omega)
                    cases e'
                    have HO := Lib.hid ((okAt_load hA HX.out).trans (by rw [behind_next (m := j - 1) (by omega) hy0]))
                    rcases Bool.eq_false_or_eq_true (recordB x.id x.hour x.lo x.hi y.hour) with q1 | q1
                    · rcases Bool.eq_false_or_eq_true (aheadB (allIds k) j) with q2 | q2
                      · have HE := Lib.hid (errAt_ok HO.out q1 q2)
                        go_wp2_with fail
                        refine (record_c _ _ _ _ _ _).mono ?_
                        rintro e w9 ⟨rfl, hb9⟩
                        have hB9 := below_then (below_then hbw (below_alloc _ _)) hb9
                        have hu9 := hu.later hB9
                        go_wp2_with fail
                        refine (first_c _ _ j _ hlt hu9).mono ?_
                        rintro e w8 ⟨rfl, hb8⟩
                        go_wp2_with fail
                        go_roundw
                        case rel => exact ⟨j + 1, by omega, by go_num, fun m hm => by
                          by_cases e' : m = j
                          · subst e'; exact HE.out
                          · exact hq.out m (by omega), below_then hB9 hb8⟩
                        case measure => simp [intOf]; omega
                      · have HE := Lib.hid (errAt_twice HO.out q1 q2)
                        go_wp2_with fail
                        refine (record_c _ _ _ _ _ _).mono ?_
                        rintro e w9 ⟨rfl, hb9⟩
                        have hB9 := below_then (below_then hbw (below_alloc _ _)) hb9
                        have hu9 := hu.later hB9
                        go_wp2_with fail
                        refine (first_c _ _ j _ hlt hu9).mono ?_
                        rintro e w8 ⟨rfl, hb8⟩
                        go_wp2_with fail
                        go_ret
                        exact ⟨ret_int (check_at h1 h2 (by omega) (by omega) (by omega) hlt hq.out HE.out (by decide)).symm, below_then hB0 (below_then hB9 hb8)⟩
                    · have HE := Lib.hid (errAt_no HO.out q1)
                      go_wp2_with fail
                      refine (record_c _ _ _ _ _ _).mono ?_
                      rintro e w9 ⟨rfl, hb9⟩
                      have hB9 := below_then (below_then hbw (below_alloc _ _)) hb9
                      have hu9 := hu.later hB9
                      go_wp2_with fail
                      go_ret
                      exact ⟨ret_int (check_at h1 h2 (by omega) (by omega) (by omega) hlt hq.out HE.out (by decide)).symm, below_then hB0 hB9⟩
                · by_cases hD : j < k.ls.length + k.ds.length
                  · obtain ⟨b, off, x, rfl, hb, hx0, c0, c1, c2, c3⟩ := H2.out (j - k.ls.length) (by omega)
                    have hbz : b < w2.heap.size := by omega
                    have hbr : b < wr.heap.size := by omega
                    have HX := Lib.hid hx0
                    clear hx0
                    have hj0 : (j - k.ls.length) ≤ 0 ∨ (1 ≤ (j - k.ls.length) ∧ (j - k.ls.length) ≤ 1) ∨ 2 ≤ (j - k.ls.length) := by omega
                    rcases hj0 with hj0 | ⟨hj1, hj2⟩ | hj2
                    · have HO := Lib.hid ((okAt_draw hA hD HX.out).trans (by rw [behind_first (by omega)]))
                      rcases Bool.eq_false_or_eq_true (recordB x.id x.hour x.lo x.hi 0) with q1 | q1
                      · rcases Bool.eq_false_or_eq_true (aheadB (allIds k) j) with q2 | q2
                        · have HE := Lib.hid (errAt_ok HO.out q1 q2)
                          go_wp2_with fail
                          refine (record_c _ _ _ _ _ _).mono ?_
                          rintro e w9 ⟨rfl, hb9⟩
                          have hB9 := below_then (below_then hbw (below_alloc _ _)) hb9
                          have hu9 := hu.later hB9
                          go_wp2_with fail
                          refine (first_c _ _ j _ hlt hu9).mono ?_
                          rintro e w8 ⟨rfl, hb8⟩
                          go_wp2_with fail
                          go_roundw
                          case rel => exact ⟨j + 1, by omega, by go_num, fun m hm => by
                            by_cases e' : m = j
                            · subst e'; exact HE.out
                            · exact hq.out m (by omega), below_then hB9 hb8⟩
                          case measure => simp [intOf]; omega
                        · have HE := Lib.hid (errAt_twice HO.out q1 q2)
                          go_wp2_with fail
                          refine (record_c _ _ _ _ _ _).mono ?_
                          rintro e w9 ⟨rfl, hb9⟩
                          have hB9 := below_then (below_then hbw (below_alloc _ _)) hb9
                          have hu9 := hu.later hB9
                          go_wp2_with fail
                          refine (first_c _ _ j _ hlt hu9).mono ?_
                          rintro e w8 ⟨rfl, hb8⟩
                          go_wp2_with fail
                          go_ret
                          exact ⟨ret_int (check_at h1 h2 (by omega) (by omega) (by omega) hlt hq.out HE.out (by decide)).symm, below_then hB0 (below_then hB9 hb8)⟩
                      · have HE := Lib.hid (errAt_no HO.out q1)
                        go_wp2_with fail
                        refine (record_c _ _ _ _ _ _).mono ?_
                        rintro e w9 ⟨rfl, hb9⟩
                        have hB9 := below_then (below_then hbw (below_alloc _ _)) hb9
                        have hu9 := hu.later hB9
                        go_wp2_with fail
                        go_ret
                        exact ⟨ret_int (check_at h1 h2 (by omega) (by omega) (by omega) hlt hq.out HE.out (by decide)).symm, below_then hB0 hB9⟩
                    · obtain ⟨b', off', y, e', hb', hy0, _, cy, _, _⟩ := H2.out 0 (by omega)
                      cases e'
                      simp only [Nat.zero_mul, Nat.add_zero] at cy
                      have HO := Lib.hid ((okAt_draw hA hD HX.out).trans (by rw [behind_next (m := 0) (by omega) hy0]))
                      rcases Bool.eq_false_or_eq_true (recordB x.id x.hour x.lo x.hi y.hour) with q1 | q1
                      · rcases Bool.eq_false_or_eq_true (aheadB (allIds k) j) with q2 | q2
                        · have HE := Lib.hid (errAt_ok HO.out q1 q2)
                          go_wp2_with fail
                          refine (record_c _ _ _ _ _ _).mono ?_
                          rintro e w9 ⟨rfl, hb9⟩
                          have hB9 := below_then (below_then hbw (below_alloc _ _)) hb9
                          have hu9 := hu.later hB9
                          go_wp2_with fail
                          refine (first_c _ _ j _ hlt hu9).mono ?_
                          rintro e w8 ⟨rfl, hb8⟩
                          go_wp2_with fail
                          go_roundw
                          case rel => exact ⟨j + 1, by omega, by go_num, fun m hm => by
                            by_cases e' : m = j
                            · subst e'; exact HE.out
                            · exact hq.out m (by omega), below_then hB9 hb8⟩
                          case measure => simp [intOf]; omega
                        · have HE := Lib.hid (errAt_twice HO.out q1 q2)
                          go_wp2_with fail
                          refine (record_c _ _ _ _ _ _).mono ?_
                          rintro e w9 ⟨rfl, hb9⟩
                          have hB9 := below_then (below_then hbw (below_alloc _ _)) hb9
                          have hu9 := hu.later hB9
                          go_wp2_with fail
                          refine (first_c _ _ j _ hlt hu9).mono ?_
                          rintro e w8 ⟨rfl, hb8⟩
                          go_wp2_with fail
                          go_ret
                          exact ⟨ret_int (check_at h1 h2 (by omega) (by omega) (by omega) hlt hq.out HE.out (by decide)).symm, below_then hB0 (below_then hB9 hb8)⟩
                      · have HE := Lib.hid (errAt_no HO.out q1)
                        go_wp2_with fail
                        refine (record_c _ _ _ _ _ _).mono ?_
                        rintro e w9 ⟨rfl, hb9⟩
                        have hB9 := below_then (below_then hbw (below_alloc _ _)) hb9
                        have hu9 := hu.later hB9
                        go_wp2_with fail
                        go_ret
                        exact ⟨ret_int (check_at h1 h2 (by omega) (by omega) (by omega) hlt hq.out HE.out (by decide)).symm, below_then hB0 hB9⟩
                    · obtain ⟨b', off', y, e', hb', hy0, _, cy, _, _⟩ := H2.out ((j - k.ls.length) - 1) (by omega)
                      cases e'
                      have HO := Lib.hid ((okAt_draw hA hD HX.out).trans (by rw [behind_next (m := (j - k.ls.length) - 1) (by omega) hy0]))
                      rcases Bool.eq_false_or_eq_true (recordB x.id x.hour x.lo x.hi y.hour) with q1 | q1
                      · rcases Bool.eq_false_or_eq_true (aheadB (allIds k) j) with q2 | q2
                        · have HE := Lib.hid (errAt_ok HO.out q1 q2)
                          go_wp2_with fail
                          refine (record_c _ _ _ _ _ _).mono ?_
                          rintro e w9 ⟨rfl, hb9⟩
                          have hB9 := below_then (below_then hbw (below_alloc _ _)) hb9
                          have hu9 := hu.later hB9
                          go_wp2_with fail
                          refine (first_c _ _ j _ hlt hu9).mono ?_
                          rintro e w8 ⟨rfl, hb8⟩
                          go_wp2_with fail
                          go_roundw
                          case rel => exact ⟨j + 1, by omega, by go_num, fun m hm => by
                            by_cases e' : m = j
                            · subst e'; exact HE.out
                            · exact hq.out m (by omega), below_then hB9 hb8⟩
                          case measure => simp [intOf]; omega
                        · have HE := Lib.hid (errAt_twice HO.out q1 q2)
                          go_wp2_with fail
                          refine (record_c _ _ _ _ _ _).mono ?_
                          rintro e w9 ⟨rfl, hb9⟩
                          have hB9 := below_then (below_then hbw (below_alloc _ _)) hb9
                          have hu9 := hu.later hB9
                          go_wp2_with fail
                          refine (first_c _ _ j _ hlt hu9).mono ?_
                          rintro e w8 ⟨rfl, hb8⟩
                          go_wp2_with fail
                          go_ret
                          exact ⟨ret_int (check_at h1 h2 (by omega) (by omega) (by omega) hlt hq.out HE.out (by decide)).symm, below_then hB0 (below_then hB9 hb8)⟩
                      · have HE := Lib.hid (errAt_no HO.out q1)
                        go_wp2_with fail
                        refine (record_c _ _ _ _ _ _).mono ?_
                        rintro e w9 ⟨rfl, hb9⟩
                        have hB9 := below_then (below_then hbw (below_alloc _ _)) hb9
                        have hu9 := hu.later hB9
                        go_wp2_with fail
                        go_ret
                        exact ⟨ret_int (check_at h1 h2 (by omega) (by omega) (by omega) hlt hq.out HE.out (by decide)).symm, below_then hB0 hB9⟩
                  · obtain ⟨b, off, x, rfl, hb, hx0, c0, c1, c2, c3, c4, c5⟩ := H3.out (j - k.ls.length - k.ds.length) (by omega)
                    have hbz : b < w2.heap.size := by omega
                    have hbr : b < wr.heap.size := by omega
                    have HX := Lib.hid hx0
                    clear hx0
                    have HO := Lib.hid (okAt_weigh hA hD HX.out)
                    rcases Bool.eq_false_or_eq_true (weighB k x) with q1 | q1
                    · rcases Bool.eq_false_or_eq_true (aheadB (allIds k) j) with q2 | q2
                      · have HE := Lib.hid (errAt_ok HO.out q1 q2)
                        go_wp2_with fail
                        refine wp_region_grown (by kernel_rfl) (by kernel_rfl) fun hcg => ?_
                        repeat (go_big_quiet_step ((go_at_call 85; exact Calls.grown (weigh_c k _ x _ (hv.later (below_then hB0 (below_then hbw (Gr.b _))))))))
                        refine wpQuiet_nil ?_
                        intro _ hw'
                        obtain ⟨g, hw''⟩ := hw'
                        subst hw''
                        have hB9 := below_then hbw g.b
                        have hu9 := hu.later hB9
                        go_wp2_with fail
                        refine (first_c _ _ j _ hlt hu9).mono ?_
                        rintro e w8 ⟨rfl, hb8⟩
                        go_wp2_with fail
                        go_roundw
                        case rel => exact ⟨j + 1, by omega, by go_num, fun m hm => by
                          by_cases e' : m = j
                          · subst e'; exact HE.out
                          · exact hq.out m (by omega), below_then hB9 hb8⟩
                        case measure => simp [intOf]; omega
                      · have HE := Lib.hid (errAt_twice HO.out q1 q2)
                        go_wp2_with fail
                        refine wp_region_grown (by kernel_rfl) (by kernel_rfl) fun hcg => ?_
                        repeat (go_big_quiet_step ((go_at_call 85; exact Calls.grown (weigh_c k _ x _ (hv.later (below_then hB0 (below_then hbw (Gr.b _))))))))
                        refine wpQuiet_nil ?_
                        intro _ hw'
                        obtain ⟨g, hw''⟩ := hw'
                        subst hw''
                        have hB9 := below_then hbw g.b
                        have hu9 := hu.later hB9
                        go_wp2_with fail
                        refine (first_c _ _ j _ hlt hu9).mono ?_
                        rintro e w8 ⟨rfl, hb8⟩
                        go_wp2_with fail
                        go_ret
                        exact ⟨ret_int (check_at h1 h2 (by omega) (by omega) (by omega) hlt hq.out HE.out (by decide)).symm, below_then hB0 (below_then hB9 hb8)⟩
                    · have HE := Lib.hid (errAt_no HO.out q1)
                      go_wp2_with fail
                      refine wp_region_grown (by kernel_rfl) (by kernel_rfl) fun hcg => ?_
                      repeat (go_big_quiet_step ((go_at_call 85; exact Calls.grown (weigh_c k _ x _ (hv.later (below_then hB0 (below_then hbw (Gr.b _))))))))
                      refine wpQuiet_nil ?_
                      intro _ hw'
                      obtain ⟨g, hw''⟩ := hw'
                      subst hw''
                      have hB9 := below_then hbw g.b
                      have hu9 := hu.later hB9
                      go_wp2_with fail
                      go_ret
                      exact ⟨ret_int (check_at h1 h2 (by omega) (by omega) (by omega) hlt hq.out HE.out (by decide)).symm, below_then hB0 hB9⟩
              · go_wp2_with fail
                go_ret
                exact ⟨ret_int (check_end h1 h2 (by omega) (by omega) (by omega) fun i hi => hq.out i (by omega)).symm, below_then hB0 hbw⟩
    · go_enter Tryz.func23, Tryz.ntmps23
      go_wp2_with fail
      refine (in_c _ _ _ _).mono ?_
      rintro e w1 ⟨rfl, rfl⟩
      go_wp2_with fail
      refine (in_c _ _ _ _).mono ?_
      rintro e w1 ⟨rfl, rfl⟩
      go_wp2_with fail
      go_ret
      exact ⟨ret_int (by simp [checkI, h2]), below_alloc _ _⟩
  · go_enter Tryz.func23, Tryz.ntmps23
    go_wp2_with fail
    refine (in_c _ _ _ _).mono ?_
    rintro e w1 ⟨rfl, rfl⟩
    go_wp2_with fail
    go_ret
    exact ⟨ret_int (by simp [checkI, h1]), below_alloc _ _⟩
end Go.Proofs.YtnedcclmfokdnaaGreat
