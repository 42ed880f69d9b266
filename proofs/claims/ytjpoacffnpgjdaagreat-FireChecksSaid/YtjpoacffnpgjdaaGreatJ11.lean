/- Texts joined: FProgB FProgC. -/
import Derived.Test.YtjpoacffnpgjdaaGreatJ9
import Derived.Test.YtjpoacffnpgjdaaGreatJ10
import Derived.Test.YtjpoacffnpgjdaaGreatJ4
/- Whether two looks contradict each other; Check: by the program. -/
namespace Go.Proofs.YtjpoacffnpgjdaaGreat
open Go.RowKit

theorem contradict_c (f : Fi) (a b : Lk) (w : World) (hf : slopeB f = true) (ha : lookB a = true) (hb : lookB b = true) :
    Calls Tryz.prog 75 #[slV f, lkV a, lkV b] w fun e w' => e = .returned (.bool (againstB f a b)) ∧ Below w.heap.size w w' := by
  obtain ⟨_, a2, a3, a4, a5⟩ := look_iff.1 ha
  obtain ⟨_, b2, b3, b4, b5⟩ := look_iff.1 hb
  have fb := far_bounds hf a2 b2
  have hC := fun W => far_c f a.at_ b.at_ W hf a2 b2
  have HE : Hid (againstB f a b = decide (b.lo > a.hi + farI f a.at_ b.at_)) := rfl
  generalize farI f a.at_ b.at_ = d at fb hC HE
  unfold slV sV Lk.at_ at hC
  unfold slV lkV
  clear ha hb hf
  go_enter Tryz.func75, Tryz.ntmps75
  go_wp2_with fail
  refine wp_region_grown (by kernel_rfl) (by kernel_rfl) fun hcg => ?_
  repeat (go_big_quiet_step ((go_at_call 57; exact Calls.grown (hC _))))
  refine wpQuiet_nil ?_
  intro _ hw'
  obtain ⟨g, hw''⟩ := hw'
  subst hw''
  go_wp2_with fail
  go_ret
  exact ⟨ret_bool HE.out.symm, below_then (below_then (below_then (below_alloc _ _) (below_alloc _ _)) (below_alloc _ _)) g.b⟩

def slI (f : Fi) : Nat → Int
  | 0 => f.rise
  | 1 => f.fall
  | 2 => f.up
  | _ => f.down
theorem slope_bad {f : Fi} {m : Nat} (hm : m < 4) (h : inF (slI f m) 0 200 = false) : fireI f = 1 := by
  have : slopeB f = false := by
    have hm4 : m = 0 ∨ m = 1 ∨ m = 2 ∨ m = 3 := by omega
    rcases hm4 with rfl | rfl | rfl | rfl <;> (simp only [slI] at h; simp [slopeB, h])
  unfold fireI; rw [if_pos this]
theorem slope_good {f : Fi} (h : ∀ m, m < 4 → inF (slI f m) 0 200 = true) : slopeB f = true := by
  have h0 := h 0 (by omega)
  have h1 := h 1 (by omega)
  have h2 := h 2 (by omega)
  have h3 := h 3 (by omega)
  simp only [slI] at h0 h1 h2 h3
  simp [slopeB, h0, h1, h2, h3]
theorem Tryz.jdx0 (a b c d : Value) (w : World) : (Instr.index 105 (.agg #[a, b, c, d]) (.int .i64 0)).run Tryz.prog w = .ok a w := by kernel_rfl
theorem Tryz.jdx1 (a b c d : Value) (w : World) : (Instr.index 105 (.agg #[a, b, c, d]) (.int .i64 1)).run Tryz.prog w = .ok b w := by kernel_rfl
theorem Tryz.jdx2 (a b c d : Value) (w : World) : (Instr.index 105 (.agg #[a, b, c, d]) (.int .i64 2)).run Tryz.prog w = .ok c w := by kernel_rfl
theorem Tryz.jdx3 (a b c d : Value) (w : World) : (Instr.index 105 (.agg #[a, b, c, d]) (.int .i64 3)).run Tryz.prog w = .ok d w := by kernel_rfl
theorem Tryz.zeroBool (w : World) : (zeroValue 4).run Tryz.prog w = .ok (.bool false) w := by kernel_rfl
def seenL (l : List Lk) (j : Nat) : List (Int × Value) := (l.take j).map fun x => (x.id, .bool true)
theorem seen_lookup : ∀ (l : List Lk) (n : Int), ((l.map fun x => (x.id, Value.bool true)).lookup n).getD (.bool false) = .bool (decide (n ∈ l.map Lk.id)) ∧ ((l.map fun x => (x.id, Value.bool true)).lookup n = none ↔ n ∉ l.map Lk.id)
  | [], n => by simp
  | x :: l, n => by
    obtain ⟨h1, h2⟩ := seen_lookup l n
    simp only [List.map_cons, List.lookup_cons]
    cases hb : n == x.id with
    | true => have e : n = x.id := beq_iff_eq.1 hb; simp [e]
    | false =>
      have e : n ≠ x.id := by simpa using hb
      refine ⟨by rw [h1]; simp [e], by rw [h2]; simp [e]⟩
set_option maxHeartbeats 4000000 in
set_option maxRecDepth 100000 in
theorem Check_c (f : Fi) (v : Value) (w : World) (hv : Fire w v f) : Calls Tryz.prog 18 #[v] w fun e w' => e = .returned (.int .i64 (fireI f)) ∧ Below w.heap.size w w' := by
  obtain ⟨vl, rfl, hl⟩ := hv
  obtain ⟨A, cap, rfl, _, hn, hat⟩ := hl.open_
  have H := Lib.hid hat
  clear hat hl
  have i0 := Tryz.jdx0
  have i1 := Tryz.jdx1
  have i2 := Tryz.jdx2
  have i3 := Tryz.jdx3
  have hmm := @run_makeMap Tryz.prog
  unfold fiV
  go_enter Tryz.func18, Tryz.ntmps18
  go_wp2_with fail
  refine (slopesOf_c f A f.ls.length cap _).mono ?_
  rintro e w1 ⟨rfl, hb1⟩
  have q0 := (hb1.block w.heap.size (by simp)).trans (heap_alloc_new w (.cells #[.int .i64 f.rise, .int .i64 f.fall, .int .i64 f.up, .int .i64 f.down, .slice A f.ls.length cap] 24))
  have hB1 := below_then (below_alloc w (.cells #[.int .i64 f.rise, .int .i64 f.fall, .int .i64 f.up, .int .i64 f.down, .slice A f.ls.length cap] 24)) hb1
  have z1 := size_of_block q0
  clear hb1
  unfold slV
  go_wp2_with fail
  go_loopw [10] (fun i wr => ∃ j : Nat, j ≤ 4 ∧ i = .int .i64 j ∧ w1 = wr ∧ Hid (∀ m, m < j → inF (slI f m) 0 200 = true)) (fun i _ => 4 - (intOf i).toNat)
  case atStart => exact ⟨0, by omega, rfl, rfl, fun m hm => by omega⟩
  case round =>
    obtain ⟨j, hj, rfl, rfl, hq⟩ := hrel
    have hj5 : j = 0 ∨ j = 1 ∨ j = 2 ∨ j = 3 ∨ j = 4 := by omega
    rcases hj5 with rfl | rfl | rfl | rfl | rfl
    · by_cases h0 : f.rise < 0
      · have hE := Lib.hid (slope_bad (f := f) (m := 0) (by omega) (by simp [slI, inF]; omega))
        go_wp2_with fail
        go_ret
        exact ⟨ret_int hE.out.symm, hB1⟩
      · by_cases h1 : 200 < f.rise
        · have hE := Lib.hid (slope_bad (f := f) (m := 0) (by omega) (by simp [slI, inF]; omega))
          go_wp2_with fail
          go_ret
          exact ⟨ret_int hE.out.symm, hB1⟩
        · go_wp2_with fail
          go_roundw
          case rel => exact ⟨1, by omega, by go_num, trivial, fun m hm => by
            by_cases e' : m = 0
            · subst e'; simp [slI, inF]; omega
            · exact hq.out m (by omega)⟩
          case measure => simp [intOf]
    · by_cases h0 : f.fall < 0
      · have hE := Lib.hid (slope_bad (f := f) (m := 1) (by omega) (by simp [slI, inF]; omega))
        go_wp2_with fail
        go_ret
        exact ⟨ret_int hE.out.symm, hB1⟩
      · by_cases h1 : 200 < f.fall
        · have hE := Lib.hid (slope_bad (f := f) (m := 1) (by omega) (by simp [slI, inF]; omega))
          go_wp2_with fail
          go_ret
          exact ⟨ret_int hE.out.symm, hB1⟩
        · go_wp2_with fail
          go_roundw
          case rel => exact ⟨2, by omega, by go_num, trivial, fun m hm => by
            by_cases e' : m = 1
            · subst e'; simp [slI, inF]; omega
            · exact hq.out m (by omega)⟩
          case measure => simp [intOf]
    · by_cases h0 : f.up < 0
      · have hE := Lib.hid (slope_bad (f := f) (m := 2) (by omega) (by simp [slI, inF]; omega))
        go_wp2_with fail
        go_ret
        exact ⟨ret_int hE.out.symm, hB1⟩
      · by_cases h1 : 200 < f.up
        · have hE := Lib.hid (slope_bad (f := f) (m := 2) (by omega) (by simp [slI, inF]; omega))
          go_wp2_with fail
          go_ret
          exact ⟨ret_int hE.out.symm, hB1⟩
        · go_wp2_with fail
          go_roundw
          case rel => exact ⟨3, by omega, by go_num, trivial, fun m hm => by
            by_cases e' : m = 2
            · subst e'; simp [slI, inF]; omega
            · exact hq.out m (by omega)⟩
          case measure => simp [intOf]
    · by_cases h0 : f.down < 0
      · have hE := Lib.hid (slope_bad (f := f) (m := 3) (by omega) (by simp [slI, inF]; omega))
        go_wp2_with fail
        go_ret
        exact ⟨ret_int hE.out.symm, hB1⟩
      · by_cases h1 : 200 < f.down
        · have hE := Lib.hid (slope_bad (f := f) (m := 3) (by omega) (by simp [slI, inF]; omega))
          go_wp2_with fail
          go_ret
          exact ⟨ret_int hE.out.symm, hB1⟩
        · go_wp2_with fail
          go_roundw
          case rel => exact ⟨4, by omega, by go_num, trivial, fun m hm => by
            by_cases e' : m = 3
            · subst e'; simp [slI, inF]; omega
            · exact hq.out m (by omega)⟩
          case measure => simp [intOf]
    · have hS := slope_good hq.out
      rw [show ((4 : Nat) : Int) = 4 from rfl]
      have q4 := Joins.cell_of_block q0 4
      by_cases h24 : 24 < f.ls.length
      · have hd : decide ((f.ls.length : Int) > 24) = true := decide_eq_true (by omega)
        have hE : Hid (fireI f = 2) := by show fireI f = 2; unfold fireI; rw [if_neg (by simp [hS]), if_pos h24]
        go_wp2_with fail
        go_ret
        exact ⟨ret_int hE.out.symm, hB1⟩
      · have hd : decide ((f.ls.length : Int) > 24) = false := decide_eq_false (by omega)
        have hE0 : Hid (fireI f = looksI (f.ls.drop 0) ((f.ls.take 0).map Lk.id)) := by show fireI f = _; unfold fireI; rw [if_neg (by simp [hS]), if_neg h24]; rfl
        have zb := Tryz.zeroBool
        go_wp2_with fail
        have M0 := IMap.made w1
        have a1 := below_alloc w1 (.map #[] 0)
        have hs2 : (w1.alloc (.map #[] 0)).heap.size = w1.heap.size + 1 := by simp
        have q4' := (a1.cell (p := ⟨w.heap.size, 4, none⟩) z1).trans q4
        generalize w1.alloc (.map #[] 0) = W2 at M0 a1 hs2 q4' ⊢
        clear q4
        have BA := below_then hB1 a1
        go_wp2_with fail
        go_loopw [28] (fun i wr => ∃ j : Nat, j ≤ f.ls.length ∧ i = .int .i64 j ∧ IMap wr w1.heap.size (seenL f.ls j) ∧ Hid (fireI f = looksI (f.ls.drop j) ((f.ls.take j).map Lk.id)) ∧ Below w1.heap.size W2 wr ∧ w1.heap.size + 1 ≤ wr.heap.size) (fun i _ => f.ls.length - (intOf i).toNat)
        case atStart => exact ⟨0, Nat.zero_le _, rfl, by simpa [seenL] using M0, hE0, Below.refl _ _, by omega⟩
        case round =>
          obtain ⟨j, hj, rfl, hmap, hE, hbw, hws⟩ := hrel
          have BW := BA.trans (hbw.mono (by omega))
          by_cases hlt : j < f.ls.length
          · obtain ⟨b, off, x, rfl, hb, hx0, c0, c1, c2, c3, c4⟩ := H.out j hlt
            have d0 := (BW.cell (p := ⟨b, off + j * 5, none⟩) hb).trans c0
            have d1 := (BW.cell (p := ⟨b, off + j * 5 + 1, none⟩) hb).trans c1
            have d2 := (BW.cell (p := ⟨b, off + j * 5 + 2, none⟩) hb).trans c2
            have d3 := (BW.cell (p := ⟨b, off + j * 5 + 3, none⟩) hb).trans c3
            have d4 := (BW.cell (p := ⟨b, off + j * 5 + 4, none⟩) hb).trans c4
            have hzb : b < wr.heap.size := Nat.lt_of_lt_of_le hb BW.size
            have hx := Lib.hid hx0
            clear c0 c1 c2 c3 c4 hx0
            have HLK := fun W => isLook_c x W
            unfold lkV at HLK
            have AB := below_alloc wr (.cells #[.int .i64 x.id, .int .i64 x.foot, .int .i64 x.hour, .int .i64 x.lo, .int .i64 x.hi] 90)
            have qn := heap_alloc_new wr (.cells #[.int .i64 x.id, .int .i64 x.foot, .int .i64 x.hour, .int .i64 x.lo, .int .i64 x.hi] 90)
            have hm2 := hmap.later AB
            rcases Bool.eq_false_or_eq_true (lookB x) with hl | hl
            · rw [hl] at HLK
              go_wp2_with fail
              generalize wr.alloc (.cells #[.int .i64 x.id, .int .i64 x.foot, .int .i64 x.hour, .int .i64 x.lo, .int .i64 x.hi] 90) = W3 at AB qn hm2 ⊢
              refine (HLK _).mono ?_
              rintro e w3 ⟨rfl, hb3⟩
              have q7 := (hb3.block _ (size_of_block qn)).trans qn
              have e0 := Joins.cell_of_block q7 0
              have hz7 := size_of_block q7
              have hm3 := hm2.later hb3
              have B3 := below_then AB hb3
              clear hb3 hm2 qn AB q7
              by_cases hin : x.id ∈ (f.ls.take j).map Lk.id
              · have hE6 : Hid (fireI f = 6) := by show fireI f = 6; rw [hE.out, looks_step hx.out, if_neg (by simp [hl]), if_pos hin]
                have hu := (seen_lookup (f.ls.take j) x.id).1
                rw [decide_eq_true hin] at hu
                go_wp2_with (at_lookup; refine wpList_lookup_i rfl (.tmp 35) (.tmp 37) 126 false rfl Tryz.underlying126 Tryz.underlying3 (.bool false) Tryz.zeroBool rfl x.id rfl hm3 (.bool true) (by simpa [seenL] using hu) ?_)
                go_ret
                exact ⟨ret_int hE6.out.symm, below_then BW B3⟩
              · have hu := (seen_lookup (f.ls.take j) x.id).1
                have hno := Lib.hid ((seen_lookup (f.ls.take j) x.id).2.2 hin)
                rw [decide_eq_false hin] at hu
                have hE2 : Hid (fireI f = looksI (f.ls.drop (j + 1)) ((f.ls.take (j + 1)).map Lk.id)) := by show fireI f = _; rw [hE.out, looks_step hx.out, if_neg (by simp [hl]), if_neg hin, take_map_snoc _ hx.out]
                have hsn : Hid (seenL f.ls (j + 1) = seenL f.ls j ++ [(x.id, .bool true)]) := take_map_snoc _ hx.out
                clear hin
                go_wp2_with (first | (at_lookup; refine wpList_lookup_i rfl (.tmp 35) (.tmp 37) 126 false rfl Tryz.underlying126 Tryz.underlying3 (.bool false) Tryz.zeroBool rfl x.id rfl hm3 (.bool false) (by simpa [seenL] using hu) ?_) | (at_mapUpdate; refine wpList_mapUpdate_new rfl _ _ _ 126 rfl Tryz.underlying126 Tryz.underlying3 rfl x.id rfl (.bool true) rfl hm3 hno.out ?_))
                intro w4 hm4 hgrow4
                have hb4 := (hbw.trans (B3.mono (by omega))).grown hgrow4 (by have := B3.size; omega) fun k e => by cases e; exact Nat.le_refl _
                have hs4 : w1.heap.size + 1 ≤ w4.heap.size := by have := hgrow4.size; have := B3.size; omega
                clear hgrow4
                go_wp2
                go_roundw
                case rel => exact ⟨j + 1, by omega, by go_num, by rw [hsn.out]; exact hm4, hE2, hb4, hs4⟩
                case measure => simp [intOf]; omega
            · have hE1 : Hid (fireI f = 1) := by show fireI f = 1; rw [hE.out, looks_step hx.out, if_pos hl]
              rw [hl] at HLK
              go_wp2_with fail
              generalize wr.alloc (.cells #[.int .i64 x.id, .int .i64 x.foot, .int .i64 x.hour, .int .i64 x.lo, .int .i64 x.hi] 90) = W3 at AB qn hm2 ⊢
              refine (HLK _).mono ?_
              rintro e w3 ⟨rfl, hb3⟩
              go_wp2_with fail
              go_ret
              exact ⟨ret_int hE1.out.symm, below_then BW (below_then AB hb3)⟩
          · obtain rfl : j = f.ls.length := by omega
            have hE1 : Hid (fireI f = 0) := by show fireI f = 0; rw [hE.out, List.drop_length]; rfl
            go_wp2_with fail
            go_ret
            exact ⟨ret_int hE1.out.symm, BW⟩
end Go.Proofs.YtjpoacffnpgjdaaGreat
/- Spots and heats that are checked, by the program: slices.ContainsFunc, checkSpots, checkHeats, checkList, checkTold. -/
namespace Go.Proofs.YtjpoacffnpgjdaaGreat
open Go.RowKit

theorem all_take_no {α : Type} {p : α → Bool} {l : List α} {j : Nat} {x : α} (hx : l[j]? = some x) (h : p x = false) : l.all p = false := by
  rw [Bool.eq_false_iff]; intro ha
  rw [List.all_eq_true.1 ha x (List.mem_of_getElem? hx)] at h; cases h
theorem all_take_yes {α : Type} {p : α → Bool} {l : List α} {j : Nat} {x : α} (hx : l[j]? = some x) (h : p x = true) (ht : (l.take j).all p = true) : (l.take (j + 1)).all p = true := by
  rw [take_snoc hx, List.all_append, ht]; simp [h]
set_option maxRecDepth 100000 in
theorem indexSpots_c (v : Value) (l : List Spt) (w : World) (hv : Spts w w.heap.size v l) :
    Calls Tryz.prog 131 #[v, .func (.func 108) #[] #[]] w fun e w' => (∃ r : Int, e = .returned (.int .i64 r) ∧ -1 ≤ r ∧ (0 ≤ r ↔ l.all spotB = false)) ∧ Below w.heap.size w w' := by
  obtain ⟨A, cap, rfl, _, hn, hat⟩ := hv.open_
  have H := Lib.hid hat
  clear hat hv
  go_enter Tryz.func131, Tryz.ntmps131
  go_wp2_with fail
  go_loopw [8] (fun i wr => ∃ j : Nat, j ≤ l.length ∧ i = .int .i64 j ∧ Hid ((l.take j).all spotB = true) ∧ Below w.heap.size w wr) (fun i _ => l.length - (intOf i).toNat)
  case atStart => exact ⟨0, Nat.zero_le _, rfl, rfl, Below.refl _ _⟩
  case round =>
    obtain ⟨j, hj, rfl, hq, hb⟩ := hrel
    by_cases hlt : j < l.length
    · obtain ⟨b, off, x, rfl, hb0, hx0, c0, c1⟩ := H.out j hlt
      have d0 := (hb.cell (p := ⟨b, off + j * 2, none⟩) hb0).trans c0
      have d1 := (hb.cell (p := ⟨b, off + j * 2 + 1, none⟩) hb0).trans c1
      have hzb : b < wr.heap.size := Nat.lt_of_lt_of_le hb0 hb.size
      have hx := Lib.hid hx0
      clear c0 c1 hx0
      have HS := isNoSpot_c x wr
      unfold sV at HS
      rcases Bool.eq_false_or_eq_true (spotB x) with hs | hs
      · rw [hs] at HS
        go_wp2_with fail
        refine HS.mono ?_
        rintro e w1 ⟨rfl, hb1⟩
        have hy := Lib.hid (all_take_yes hx.out hs hq.out)
        have hB := hb.trans (hb1.mono hb.size)
        go_wp2_with fail
        go_roundw
        case rel => exact ⟨j + 1, by omega, by go_num, hy, hB⟩
        case measure => simp [intOf]; omega
      · rw [hs] at HS
        go_wp2_with fail
        refine HS.mono ?_
        rintro e w1 ⟨rfl, hb1⟩
        have hy := Lib.hid (all_take_no hx.out hs)
        have hB := hb.trans (hb1.mono hb.size)
        go_wp2_with fail
        go_ret
        exact ⟨⟨_, rfl, by omega, fun _ => hy.out, fun _ => by omega⟩, hB⟩
    · obtain rfl : j = l.length := by omega
      rw [List.take_length] at hq
      go_wp2_with fail
      go_ret
      exact ⟨⟨_, rfl, by omega, fun h => by omega, fun h => by rw [hq.out] at h; cases h⟩, hb⟩
theorem containsSpots_c (v : Value) (l : List Spt) (w : World) (hv : Spts w w.heap.size v l) :
    Calls Tryz.prog 107 #[v, .func (.func 108) #[] #[]] w fun e w' => e = .returned (.bool (!l.all spotB)) ∧ Below w.heap.size w w' := by
  have HC := indexSpots_c v l w hv
  obtain ⟨A, cap, rfl⟩ := hv.form
  clear hv
  go_enter Tryz.func107, Tryz.ntmps107
  go_wp2_with fail
  refine HC.mono ?_
  rintro e w1 ⟨⟨r, rfl, h1, h2⟩, hb⟩
  have hd : decide (r ≥ 0) = !l.all spotB := by
    rw [Bool.eq_iff_iff]; simp only [decide_eq_true_eq, Bool.not_eq_true']; exact h2
  clear h2
  go_wp2_with fail
  go_ret
  exact ⟨rfl, hb⟩
theorem checkSpots_c (v : Value) (l : List Spt) (w : World) (hv : Spts w w.heap.size v l) :
    Calls Tryz.prog 55 #[v] w fun e w' => e = .returned (.int .i64 (if l.all spotB then 0 else 1)) ∧ Below w.heap.size w w' := by
  have HC := containsSpots_c v l w hv
  obtain ⟨A, cap, rfl⟩ := hv.form
  clear hv
  rcases Bool.eq_false_or_eq_true (l.all spotB) with h | h
  all_goals
    rw [h] at HC ⊢
    go_enter Tryz.func55, Tryz.ntmps55
    go_wp2_with fail
    refine HC.mono ?_
    rintro e w1 ⟨rfl, hb⟩
    go_wp2_with fail
    go_ret
    exact ⟨rfl, hb⟩
set_option maxRecDepth 100000 in
theorem indexHeats_c (v : Value) (l : List Int) (w : World) (hv : Ints w w.heap.size v l) :
    Calls Tryz.prog 137 #[v, .func (.func 117) #[] #[]] w fun e w' => (∃ r : Int, e = .returned (.int .i64 r) ∧ -1 ≤ r ∧ (0 ≤ r ↔ l.all heatB = false)) ∧ Below w.heap.size w w' := by
  obtain ⟨A, cap, rfl, _, hn, hat⟩ := hv.open_
  have H := Lib.hid hat
  clear hat hv
  go_enter Tryz.func137, Tryz.ntmps137
  go_wp2_with fail
  go_loopw [8] (fun i wr => ∃ j : Nat, j ≤ l.length ∧ i = .int .i64 j ∧ Hid ((l.take j).all heatB = true) ∧ w = wr) (fun i _ => l.length - (intOf i).toNat)
  case atStart => exact ⟨0, Nat.zero_le _, rfl, rfl, rfl⟩
  case round =>
    obtain ⟨j, hj, rfl, hq, rfl⟩ := hrel
    by_cases hlt : j < l.length
    · obtain ⟨b, off, x, rfl, hb0, hx0, c0⟩ := H.out j hlt
      have hx := Lib.hid hx0
      clear hx0
      have HS := isNoHeat_c x w
      rcases Bool.eq_false_or_eq_true (heatB x) with hs | hs
      · rw [hs] at HS
        go_wp2_with fail
        refine HS.mono ?_
        rintro e w1 ⟨rfl, rfl⟩
        have hy := Lib.hid (all_take_yes hx.out hs hq.out)
        go_wp2_with fail
        go_roundw
        case rel => exact ⟨j + 1, by omega, by go_num, hy, trivial⟩
        case measure => simp [intOf]; omega
      · rw [hs] at HS
        go_wp2_with fail
        refine HS.mono ?_
        rintro e w1 ⟨rfl, rfl⟩
        have hy := Lib.hid (all_take_no hx.out hs)
        go_wp2_with fail
        go_ret
        exact ⟨⟨_, rfl, by omega, fun _ => hy.out, fun _ => by omega⟩, Below.refl _ _⟩
    · obtain rfl : j = l.length := by omega
      rw [List.take_length] at hq
      go_wp2_with fail
      go_ret
      exact ⟨⟨_, rfl, by omega, fun h => by omega, fun h => by rw [hq.out] at h; cases h⟩, Below.refl _ _⟩
theorem containsHeats_c (v : Value) (l : List Int) (w : World) (hv : Ints w w.heap.size v l) :
    Calls Tryz.prog 125 #[v, .func (.func 117) #[] #[]] w fun e w' => e = .returned (.bool (!l.all heatB)) ∧ Below w.heap.size w w' := by
  have HC := indexHeats_c v l w hv
  obtain ⟨A, cap, rfl⟩ := hv.form
  clear hv
  go_enter Tryz.func125, Tryz.ntmps125
  go_wp2_with fail
  refine HC.mono ?_
  rintro e w1 ⟨⟨r, rfl, h1, h2⟩, hb⟩
  have hd : decide (r ≥ 0) = !l.all heatB := by
    rw [Bool.eq_iff_iff]; simp only [decide_eq_true_eq, Bool.not_eq_true']; exact h2
  clear h2
  go_wp2_with fail
  go_ret
  exact ⟨rfl, hb⟩
theorem checkHeats_c (v : Value) (l : List Int) (w : World) (hv : Ints w w.heap.size v l) :
    Calls Tryz.prog 95 #[v] w fun e w' => e = .returned (.int .i64 (if l.all heatB then 0 else 1)) ∧ Below w.heap.size w w' := by
  have HC := containsHeats_c v l w hv
  obtain ⟨A, cap, rfl⟩ := hv.form
  clear hv
  rcases Bool.eq_false_or_eq_true (l.all heatB) with h | h
  all_goals
    rw [h] at HC ⊢
    go_enter Tryz.func95, Tryz.ntmps95
    go_wp2_with fail
    refine HC.mono ?_
    rintro e w1 ⟨rfl, hb⟩
    go_wp2_with fail
    go_ret
    exact ⟨rfl, hb⟩
theorem checkList_c (v : Value) (l : List Spt) (w : World) (hv : Spts w w.heap.size v l) :
    Calls Tryz.prog 87 #[v] w fun e w' => e = .returned (.int .i64 (spotsI l)) ∧ Below w.heap.size w w' := by
  have HC := checkSpots_c v l w hv
  obtain ⟨A, cap, rfl, _, hn, _⟩ := hv.open_
  clear hv
  by_cases h : 24 < l.length
  · have hd : decide ((l.length : Int) > 24) = true := decide_eq_true (by omega)
    go_enter Tryz.func87, Tryz.ntmps87
    go_wp2_with fail
    go_ret
    exact ⟨ret_int (by unfold spotsI; rw [if_pos h]), Below.refl _ _⟩
  · have hd : decide ((l.length : Int) > 24) = false := decide_eq_false (by omega)
    have HE : Hid (spotsI l = if l.all spotB then 0 else 1) := by show spotsI l = _; unfold spotsI; rw [if_neg h]
    go_enter Tryz.func87, Tryz.ntmps87
    go_wp2_with fail
    refine HC.mono ?_
    rintro e w1 ⟨rfl, hb⟩
    generalize (if l.all spotB then (0 : Int) else 1) = r at HE ⊢
    go_wp2_with fail
    go_ret
    exact ⟨ret_int HE.out.symm, hb⟩
theorem checkTold_c (v u : Value) (l : List Spt) (hs : List Int) (w : World) (hv : Spts w w.heap.size v l) (hu : Ints w w.heap.size u hs) :
    Calls Tryz.prog 91 #[v, u] w fun e w' => e = .returned (.int .i64 (toldE l hs)) ∧ Below w.heap.size w w' := by
  have HC := checkHeats_c u hs w hu
  obtain ⟨A, cap, rfl, _, hn, _⟩ := hv.open_
  obtain ⟨A2, cap2, rfl, _, hn2, _⟩ := hu.open_
  clear hv hu
  by_cases h : l.length = hs.length
  · have hd : ((l.length : Int) != (hs.length : Int)) = false := by simp; omega
    have HE : Hid (toldE l hs = if hs.all heatB then 0 else 1) := by show toldE l hs = _; unfold toldE; rw [if_neg (by simp [h])]
    clear h
    go_enter Tryz.func91, Tryz.ntmps91
    go_wp2_with fail
    refine HC.mono ?_
    rintro e w1 ⟨rfl, hb⟩
    generalize (if hs.all heatB then (0 : Int) else 1) = r at HE ⊢
    go_wp2_with fail
    go_ret
    exact ⟨ret_int HE.out.symm, hb⟩
  · have hd : ((l.length : Int) != (hs.length : Int)) = true := by simp; omega
    have HE : Hid (toldE l hs = 1) := by show toldE l hs = 1; unfold toldE; rw [if_pos h]
    clear h
    go_enter Tryz.func91, Tryz.ntmps91
    go_wp2_with fail
    go_ret
    exact ⟨ret_int HE.out.symm, Below.refl _ _⟩
end Go.Proofs.YtjpoacffnpgjdaaGreat
