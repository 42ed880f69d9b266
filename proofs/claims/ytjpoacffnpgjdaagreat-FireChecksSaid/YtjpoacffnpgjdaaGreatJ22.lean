/- Texts joined: FRefA FRefB FRefC. -/
import Derived.Test.YtjpoacffnpgjdaaGreatProg
import Derived.Test.YtjpoacffnpgjdaaGreatJ2
import Derived.Test.YtjpoacffnpgjdaaGreatJ3
import Derived.Test.YtjpoacffnpgjdaaGreatJ4
import Derived.Lib.MinMax
/- What the small functions of the reference for fires return: within, Heat, Spot, right, far, against. -/
namespace Go.Proofs.YtjpoacffnpgjdaaGreat
open Go.RowKit

theorem within_r (n lo hi : Int) (w : World) :
    Calls Tryz.prog 73 #[.int .i64 n, .int .i64 lo, .int .i64 hi] w fun e w' => e = .returned (.bool (inF n lo hi)) ∧ w = w' := by
  by_cases h1 : lo ≤ n
  · go_enter Tryz.func73, Tryz.ntmps73
    go_wp2
    go_ret
    exact ⟨ret_bool (by simp [inF, h1]), rfl⟩
  · go_enter Tryz.func73, Tryz.ntmps73
    go_wp2
    go_ret
    exact ⟨ret_bool (by simp [inF]; omega), rfl⟩
theorem heat_r (n : Int) (w : World) :
    Calls Tryz.prog 94 #[.int .i64 n] w fun e w' => e = .returned (.bool (heatB n)) ∧ w = w' := by
  go_enter Tryz.func94, Tryz.ntmps94
  go_wp2_with fail
  refine (within_r _ _ _ _).mono ?_
  rintro e w' ⟨rfl, rfl⟩
  go_wp2_with fail
  go_ret
  exact ⟨rfl, rfl⟩
theorem spot_r (p : Spt) (w : World) :
    Calls Tryz.prog 58 #[sV p] w fun e w' => e = .returned (.bool (spotB p)) ∧ Below w.heap.size w w' := by
  unfold sV
  rcases Bool.eq_false_or_eq_true (inF p.foot 0 60) with h | h
  all_goals
    go_enter Tryz.func58, Tryz.ntmps58
    go_wp2_with fail
    refine (within_r _ _ _ _).mono ?_
    rintro e w' ⟨rfl, rfl⟩
    rw [h]
    go_wp2_with fail
    refine (within_r _ _ _ _).mono ?_
    rintro e w' ⟨rfl, rfl⟩
    go_wp2_with fail
    go_ret
    exact ⟨ret_bool (by simp [spotB, h]), below_alloc _ _⟩
set_option maxHeartbeats 2000000 in
theorem right_r (x : Lk) (w : World) :
    Calls Tryz.prog 74 #[lkV x] w fun e w' => e = .returned (.bool (lookB x)) ∧ Below w.heap.size w w' := by
  unfold lkV
  have hsp := fun W => spot_r x.at_ W
  unfold sV Lk.at_ at hsp
  have hq : Hid (lookB x = (inF x.id 1 1099511627776 && spotB ⟨x.foot, x.hour⟩ && heatB x.lo && heatB x.hi && decide (x.lo ≤ x.hi))) := rfl
  rcases Bool.eq_false_or_eq_true (inF x.id 1 1099511627776) with h1 | h1 <;> rcases Bool.eq_false_or_eq_true (spotB ⟨x.foot, x.hour⟩) with h2 | h2 <;> rcases Bool.eq_false_or_eq_true (heatB x.lo) with h3 | h3 <;> rcases Bool.eq_false_or_eq_true (heatB x.hi) with h4 | h4
  all_goals
    rw [h2] at hsp
    go_enter Tryz.func74, Tryz.ntmps74
    go_wp2_with fail
    refine (within_r _ _ _ _).mono ?_
    rintro e w' ⟨rfl, rfl⟩
    rw [h1]
    go_wp2_with fail
    refine (hsp _).mono ?_
    rintro e w1 ⟨rfl, hb1⟩
    obtain ⟨hc1, hf1⟩ := bcell hb1
    have hs1 := hb1.size
    simp only [World.size_alloc] at hs1
    have hz1 : w.heap.size < w1.heap.size := by omega
    have hB1 := below_then (below_alloc _ _) hb1
    go_wp2_with fail
    refine (heat_r _ _).mono ?_
    rintro e w' ⟨rfl, rfl⟩
    rw [h3]
    go_wp2_with fail
    refine (heat_r _ _).mono ?_
    rintro e w' ⟨rfl, rfl⟩
    rw [h4]
    go_wp2_with fail
    go_ret
    exact ⟨ret_bool (by rw [hq.out]; simp [h1, h2, h3, h4]), hB1⟩
set_option maxHeartbeats 1000000 in
theorem far_r (f : Fi) (A : Option Addr) (n cap : Nat) (p q : Spt) (w : World) (hf : slopeB f = true) (hp : spotB p = true) (hq : spotB q = true) :
    Calls Tryz.prog 59 #[fiV f (.slice A n cap), sV p, sV q] w fun e w' => e = .returned (.int .i64 (farI f p q)) ∧ Below w.heap.size w w' := by
  have key : ∀ a b m : Int, 0 ≤ a → a ≤ m → 0 ≤ b → b ≤ 200 → 0 ≤ a * b ∧ a * b ≤ m * 200 := fun a b m ha hm hb hb2 =>
    ⟨Int.mul_nonneg ha hb, Int.mul_le_mul hm hb2 hb (by omega)⟩
  have g1 := slope_iff.1 hf
  have g2 := spot_iff.1 hp
  have g3 := spot_iff.1 hq
  have a1 := key (max 0 (q.hour - p.hour)) f.rise 16384 (by omega) (by omega) (by omega) (by omega)
  have a2 := key (max 0 (p.hour - q.hour)) f.fall 16384 (by omega) (by omega) (by omega) (by omega)
  have a3 := key (max 0 (q.foot - p.foot)) f.up 60 (by omega) (by omega) (by omega) (by omega)
  have a4 := key (max 0 (p.foot - q.foot)) f.down 60 (by omega) (by omega) (by omega) (by omega)
  have HI : Hid (farI f p q = max 0 (q.foot - p.foot) * f.up + max 0 (p.foot - q.foot) * f.down + max 0 (q.hour - p.hour) * f.rise + max 0 (p.hour - q.hour) * f.fall) := rfl
  have e1 : IntKind.i64.wrap (q.foot - p.foot) = q.foot - p.foot := by rw [IntKind.wrap_i64]; omega
  have e2 : IntKind.i64.wrap (p.foot - q.foot) = p.foot - q.foot := by rw [IntKind.wrap_i64]; omega
  have e3 : IntKind.i64.wrap (q.hour - p.hour) = q.hour - p.hour := by rw [IntKind.wrap_i64]; omega
  have e4 : IntKind.i64.wrap (p.hour - q.hour) = p.hour - q.hour := by rw [IntKind.wrap_i64]; omega
  have w1 : IntKind.i64.wrap (max 0 (q.foot - p.foot) * f.up) = max 0 (q.foot - p.foot) * f.up := by rw [IntKind.wrap_i64]; omega
  have w2 : IntKind.i64.wrap (max 0 (p.foot - q.foot) * f.down) = max 0 (p.foot - q.foot) * f.down := by rw [IntKind.wrap_i64]; omega
  have w3 : IntKind.i64.wrap (max 0 (q.hour - p.hour) * f.rise) = max 0 (q.hour - p.hour) * f.rise := by rw [IntKind.wrap_i64]; omega
  have w4 : IntKind.i64.wrap (max 0 (p.hour - q.hour) * f.fall) = max 0 (p.hour - q.hour) * f.fall := by rw [IntKind.wrap_i64]; omega
  have w5 : IntKind.i64.wrap (max 0 (q.foot - p.foot) * f.up + max 0 (p.foot - q.foot) * f.down) = max 0 (q.foot - p.foot) * f.up + max 0 (p.foot - q.foot) * f.down := by rw [IntKind.wrap_i64]; omega
  have w6 : IntKind.i64.wrap (max 0 (q.foot - p.foot) * f.up + max 0 (p.foot - q.foot) * f.down + max 0 (q.hour - p.hour) * f.rise) = max 0 (q.foot - p.foot) * f.up + max 0 (p.foot - q.foot) * f.down + max 0 (q.hour - p.hour) * f.rise := by rw [IntKind.wrap_i64]; omega
  have w7 : IntKind.i64.wrap (max 0 (q.foot - p.foot) * f.up + max 0 (p.foot - q.foot) * f.down + max 0 (q.hour - p.hour) * f.rise + max 0 (p.hour - q.hour) * f.fall) = max 0 (q.foot - p.foot) * f.up + max 0 (p.foot - q.foot) * f.down + max 0 (q.hour - p.hour) * f.rise + max 0 (p.hour - q.hour) * f.fall := by rw [IntKind.wrap_i64]; omega
  clear key a1 a2 a3 a4 g1 g2 g3 hf hp hq
  obtain ⟨q0, q1, q2, -, hB⟩ := three_new w (.cells #[.int .i64 f.rise, .int .i64 f.fall, .int .i64 f.up, .int .i64 f.down, .slice A n cap] 24) (.cells #[.int .i64 p.foot, .int .i64 p.hour] 26) (.cells #[.int .i64 q.foot, .int .i64 q.hour] 26)
  have c0 := Joins.cell_of_block q0 0
  have c1 := Joins.cell_of_block q0 1
  have c2 := Joins.cell_of_block q0 2
  have c3 := Joins.cell_of_block q0 3
  have d0 := Joins.cell_of_block q1 0
  have d1 := Joins.cell_of_block q1 1
  have f0 := Joins.cell_of_block q2 0
  have f1 := Joins.cell_of_block q2 1
  unfold sV fiV
  go_enter Tryz.func59, Tryz.ntmps59
  go_wp2_with fail
  go_ret
  exact ⟨by rw [HI.out]; rfl, hB⟩
end Go.Proofs.YtjpoacffnpgjdaaGreat
/- The reference for fires: against, agree, Check, Far. -/
namespace Go.Proofs.YtjpoacffnpgjdaaGreat
open Go.RowKit

theorem against_r (f : Fi) (A : Option Addr) (n cap : Nat) (a b : Lk) (w : World) (hf : slopeB f = true) (ha : lookB a = true) (hb : lookB b = true) :
    Calls Tryz.prog 62 #[fiV f (.slice A n cap), lkV a, lkV b] w fun e w' => e = .returned (.bool (againstB f a b)) ∧ Below w.heap.size w w' := by
  obtain ⟨_, a2, a3, a4, a5⟩ := look_iff.1 ha
  obtain ⟨_, b2, b3, b4, b5⟩ := look_iff.1 hb
  have fb := far_bounds hf a2 b2
  have hC := fun W => far_r f A n cap a.at_ b.at_ W hf a2 b2
  have HE : Hid (againstB f a b = decide (b.lo > a.hi + farI f a.at_ b.at_)) := rfl
  generalize farI f a.at_ b.at_ = d at fb hC HE
  unfold fiV sV Lk.at_ at hC
  unfold fiV lkV
  clear ha hb hf
  go_enter Tryz.func62, Tryz.ntmps62
  go_wp2_with fail
  refine wp_region_grown (by kernel_rfl) (by kernel_rfl) fun hcg => ?_
  repeat (go_big_quiet_step ((go_at_call 59; exact Calls.grown (hC _))))
  refine wpQuiet_nil ?_
  intro _ hw'
  obtain ⟨g, hw''⟩ := hw'
  subst hw''
  go_wp2_with fail
  go_ret
  exact ⟨ret_bool HE.out.symm, below_then (below_then (below_then (below_alloc _ _) (below_alloc _ _)) (below_alloc _ _)) g.b⟩
set_option maxRecDepth 100000 in
set_option maxHeartbeats 2000000 in
theorem agree_r (f : Fi) (vl : Value) (w : World) (hl : Lks w w.heap.size vl f.ls) (hf : slopeB f = true) (hk : ∀ x ∈ f.ls, lookB x = true) :
    Calls Tryz.prog 65 #[fiV f vl] w fun e w' => e = .returned (.bool (agreeB f f.ls)) ∧ Below w.heap.size w w' := by
  obtain ⟨A, cap, rfl, _, hn, hat⟩ := Lks.open_ hl
  have H := Lib.hid hat
  clear hat hl
  obtain ⟨R, hR⟩ : ∃ r, r = agreeB f f.ls := ⟨_, rfl⟩
  rw [← hR]
  have HR := Lib.hid hR
  have HC := Lib.hid (fun W a b ha hb => against_r f A f.ls.length cap a b W hf (hk a ha) (hk b hb))
  clear hR hk hf
  have q0 := heap_alloc_new w (.cells #[.int .i64 f.rise, .int .i64 f.fall, .int .i64 f.up, .int .i64 f.down, .slice A f.ls.length cap] 24)
  have qb := below_alloc w (.cells #[.int .i64 f.rise, .int .i64 f.fall, .int .i64 f.up, .int .i64 f.down, .slice A f.ls.length cap] 24)
  unfold fiV at HC ⊢
  unfold lkV at HC
  go_enter Tryz.func65, Tryz.ntmps65
  go_wp2_with fail
  generalize w.alloc _ = W1 at q0 qb ⊢
  go_loopw [3] (fun i wr => ∃ j : Nat, j ≤ f.ls.length ∧ i = .int .i64 j ∧ Hid (∀ x ∈ f.ls.take j, ∀ y ∈ f.ls, againstB f x y = false) ∧ wr.heap[w.heap.size]? = some (.cells #[.int .i64 f.rise, .int .i64 f.fall, .int .i64 f.up, .int .i64 f.down, .slice A f.ls.length cap] 24) ∧ Below w.heap.size w wr) (fun i _ => f.ls.length - (intOf i).toNat)
  case atStart => exact ⟨0, Nat.zero_le _, rfl, by intro x hx; simp at hx, q0, qb⟩
  case round =>
    clear q0 qb
    obtain ⟨j, hj, rfl, hI, bf, hbw⟩ := hrel
    have cf4 := Joins.cell_of_block bf 4
    by_cases hlt : j < f.ls.length
    · obtain ⟨b, off, x, rfl, hb, hx0, x0, x1, x2, x3, x4⟩ := H.out j hlt
      have hx := Lib.hid hx0
      clear hx0
      obtain ⟨wo, rfl⟩ : ∃ wo : World, wo = wr := ⟨_, rfl⟩
      go_wp2_with fail
      clear cf4
      go_loopw [4] (fun i wr => ∃ m : Nat, m ≤ f.ls.length ∧ i = .int .i64 m ∧ Hid (∀ y ∈ f.ls.take m, againstB f x y = false) ∧ wr.heap[w.heap.size]? = some (.cells #[.int .i64 f.rise, .int .i64 f.fall, .int .i64 f.up, .int .i64 f.down, .slice (some ⟨b, off, none⟩) f.ls.length cap] 24) ∧ Below w.heap.size w wr) (fun i _ => f.ls.length - (intOf i).toNat)
      case atStart => exact ⟨0, Nat.zero_le _, rfl, by intro x hx; simp at hx, bf, hbw⟩
      case round =>
        clear bf hbw
        obtain ⟨m, hm, rfl, hM, bf, hbw⟩ := hrel
        have zbf := size_of_block bf
        have cf0 := Joins.cell_of_block bf 0
        have cf1 := Joins.cell_of_block bf 1
        have cf2 := Joins.cell_of_block bf 2
        have cf3 := Joins.cell_of_block bf 3
        have cf4 := Joins.cell_of_block bf 4
        by_cases hlm : m < f.ls.length
        · obtain ⟨b2, off2, y, e2, _, hy0, y0, y1, y2, y3, y4⟩ := H.out m hlm
          cases e2
          have hy := Lib.hid hy0
          clear hy0
          have bw : ∀ o, wr.cell? ⟨b, o, none⟩ = w.cell? ⟨b, o, none⟩ := fun o => hbw.cell (p := ⟨b, o, none⟩) hb
          have cx0 := (bw _).trans x0
          have cx1 := (bw _).trans x1
          have cx2 := (bw _).trans x2
          have cx3 := (bw _).trans x3
          have cx4 := (bw _).trans x4
          have cy0 := (bw _).trans y0
          have cy1 := (bw _).trans y1
          have cy2 := (bw _).trans y2
          have cy3 := (bw _).trans y3
          have cy4 := (bw _).trans y4
          have zb : b < wr.heap.size := Nat.lt_of_lt_of_le hb hbw.size
          have hcc := fun W => HC.out W x y (List.mem_of_getElem? hx.out) (List.mem_of_getElem? hy.out)
          cases hag : againstB f x y with
          | true =>
            rw [hag] at hcc
            clear bw x0 x1 x2 x3 x4 y0 y1 y2 y3 y4
            go_wp2_with fail
            refine wp_region_grown (by kernel_rfl) (by kernel_rfl) fun hcg => ?_
            repeat (go_big_quiet_step ((go_at_call 62; exact Calls.grown (hcc _))))
            refine wpQuiet_nil ?_
            intro _ hw'
            obtain ⟨g, hw''⟩ := hw'
            subst hw''
            have B9 := below_then hbw g.b
            obtain rfl : R = false := by
              rw [HR.out, Bool.eq_false_iff]
              intro h
              unfold agreeB at h
              rw [List.all_eq_true] at h
              have := List.all_eq_true.1 (h x (List.mem_of_getElem? hx.out)) y (List.mem_of_getElem? hy.out)
              rw [hag] at this; cases this
            go_wp2_with fail
            go_ret
            exact ⟨rfl, B9⟩
          | false =>
            rw [hag] at hcc
            clear bw x0 x1 x2 x3 x4 y0 y1 y2 y3 y4
            have hM2 : Hid (∀ z ∈ f.ls.take (m + 1), againstB f x z = false) := by
              intro z hz
              rw [take_snoc hy.out, List.mem_append, List.mem_singleton] at hz
              rcases hz with hz | rfl
              · exact hM.out z hz
              · exact hag
            clear hag
            go_wp2_with fail
            refine wp_region_grown (by kernel_rfl) (by kernel_rfl) fun hcg => ?_
            repeat (go_big_quiet_step ((go_at_call 62; exact Calls.grown (hcc _))))
            refine wpQuiet_nil ?_
            intro _ hw'
            obtain ⟨g, hw''⟩ := hw'
            subst hw''
            have B9 := below_then hbw g.b
            have bf9 := (g.b.block _ (size_of_block bf)).trans bf
            go_wp2_with fail
            go_roundw
            case rel => exact ⟨m + 1, by omega, by go_num, hM2, bf9, B9⟩
            case measure => simp [intOf]; omega
        · obtain rfl : m = f.ls.length := by omega
          rw [List.take_length] at hM
          have hI2 : Hid (∀ z ∈ f.ls.take (j + 1), ∀ y ∈ f.ls, againstB f z y = false) := by
            intro z hz
            rw [take_snoc hx.out, List.mem_append, List.mem_singleton] at hz
            rcases hz with hz | rfl
            · exact hI.out z hz
            · exact hM.out
          go_wp2_with fail
          go_roundw
          case rel => exact ⟨j + 1, by omega, by go_num, hI2, bf, hbw⟩
          case measure => simp [intOf]; omega
    · obtain rfl : j = f.ls.length := by omega
      obtain rfl : R = true := by
        rw [HR.out, agreeB, List.all_eq_true]
        intro x hx
        rw [List.all_eq_true]
        intro y hy
        rw [hI.out x (by rw [List.take_length]; exact hx) y hy]; rfl
      go_wp2_with fail
      go_ret
      exact ⟨rfl, hbw⟩
end Go.Proofs.YtjpoacffnpgjdaaGreat
/- The reference for fires: Check. -/
namespace Go.Proofs.YtjpoacffnpgjdaaGreat
open Go.RowKit

set_option maxHeartbeats 2000000 in
theorem CheckR_bad (f : Fi) (A : Option Addr) (n cap : Nat) (w : World) (hs : slopeB f = false) :
    Calls Tryz.prog 19 #[fiV f (.slice A n cap)] w fun e w' => e = .returned (.int .i64 1) ∧ Below w.heap.size w w' := by
  have HS := Lib.hid hs
  clear hs
  unfold fiV
  rcases Bool.eq_false_or_eq_true (inF f.rise 0 200) with h1 | h1 <;> rcases Bool.eq_false_or_eq_true (inF f.fall 0 200) with h2 | h2 <;> rcases Bool.eq_false_or_eq_true (inF f.up 0 200) with h3 | h3 <;> rcases Bool.eq_false_or_eq_true (inF f.down 0 200) with h4 | h4
  · have := HS.out; simp [slopeB, h1, h2, h3, h4] at this
  all_goals
    go_enter Tryz.func19, Tryz.ntmps19
    go_wp2_with fail
    refine (within_r _ _ _ _).mono ?_
    rintro e w' ⟨rfl, rfl⟩
    rw [h1]
    go_wp2_with fail
    refine (within_r _ _ _ _).mono ?_
    rintro e w' ⟨rfl, rfl⟩
    rw [h2]
    go_wp2_with fail
    refine (within_r _ _ _ _).mono ?_
    rintro e w' ⟨rfl, rfl⟩
    rw [h3]
    go_wp2_with fail
    refine (within_r _ _ _ _).mono ?_
    rintro e w' ⟨rfl, rfl⟩
    rw [h4]
    go_wp2_with fail
    go_ret
    exact ⟨rfl, below_alloc _ _⟩
set_option maxRecDepth 100000 in
set_option maxHeartbeats 2000000 in
theorem CheckR_ok (f : Fi) (vl : Value) (w : World) (hl : Lks w w.heap.size vl f.ls) (hs : slopeB f = true) :
    Calls Tryz.prog 19 #[fiV f vl] w fun e w' => e = .returned (.int .i64 (if 24 < f.ls.length then 2 else looksI f.ls [])) ∧ Below w.heap.size w w' := by
  obtain ⟨A, cap, rfl, _, hn, hat⟩ := Lks.open_ hl
  have H := Lib.hid hat
  clear hat hl
  obtain ⟨⟨⟨h1, h2⟩, h3⟩, h4⟩ : ((inF f.rise 0 200 = true ∧ inF f.fall 0 200 = true) ∧ inF f.up 0 200 = true) ∧ inF f.down 0 200 = true := by
    simpa only [slopeB, Bool.and_eq_true] using hs
  clear hs
  have q0 := heap_alloc_new w (.cells #[.int .i64 f.rise, .int .i64 f.fall, .int .i64 f.up, .int .i64 f.down, .slice A f.ls.length cap] 24)
  have qb := below_alloc w (.cells #[.int .i64 f.rise, .int .i64 f.fall, .int .i64 f.up, .int .i64 f.down, .slice A f.ls.length cap] 24)
  unfold fiV
  by_cases h24 : 24 < f.ls.length
  · have d1 : decide ((f.ls.length : Int) > 24) = true := decide_eq_true (by omega)
    rw [if_pos h24]
    clear h24
    go_enter Tryz.func19, Tryz.ntmps19
    go_wp2_with fail
    refine (within_r _ _ _ _).mono ?_
    rintro e w' ⟨rfl, rfl⟩
    rw [h1]
    go_wp2_with fail
    refine (within_r _ _ _ _).mono ?_
    rintro e w' ⟨rfl, rfl⟩
    rw [h2]
    go_wp2_with fail
    refine (within_r _ _ _ _).mono ?_
    rintro e w' ⟨rfl, rfl⟩
    rw [h3]
    go_wp2_with fail
    refine (within_r _ _ _ _).mono ?_
    rintro e w' ⟨rfl, rfl⟩
    rw [h4]
    go_wp2_with fail
    go_ret
    exact ⟨rfl, qb⟩
  · have d1 : decide ((f.ls.length : Int) > 24) = false := decide_eq_false (by omega)
    rw [if_neg h24]
    obtain ⟨R, hR⟩ : ∃ r, r = looksI f.ls [] := ⟨_, rfl⟩
    rw [← hR]
    have HR := Lib.hid hR
    clear hR h24
    go_enter Tryz.func19, Tryz.ntmps19
    go_wp2_with fail
    refine (within_r _ _ _ _).mono ?_
    rintro e w' ⟨rfl, rfl⟩
    rw [h1]
    go_wp2_with fail
    refine (within_r _ _ _ _).mono ?_
    rintro e w' ⟨rfl, rfl⟩
    rw [h2]
    go_wp2_with fail
    refine (within_r _ _ _ _).mono ?_
    rintro e w' ⟨rfl, rfl⟩
    rw [h3]
    go_wp2_with fail
    refine (within_r _ _ _ _).mono ?_
    rintro e w' ⟨rfl, rfl⟩
    rw [h4]
    go_wp2_with fail
    clear h1 h2 h3 h4
    generalize w.alloc _ = W1 at q0 qb ⊢
    go_loopw [7] (fun i wr => ∃ j : Nat, j ≤ f.ls.length ∧ i = .int .i64 j ∧ Hid (R = looksI (f.ls.drop j) ((f.ls.take j).map Lk.id)) ∧ wr.heap[w.heap.size]? = some (.cells #[.int .i64 f.rise, .int .i64 f.fall, .int .i64 f.up, .int .i64 f.down, .slice A f.ls.length cap] 24) ∧ Below w.heap.size w wr) (fun i _ => f.ls.length - (intOf i).toNat)
    case atStart => exact ⟨0, Nat.zero_le _, rfl, HR.out, q0, qb⟩
    case round =>
      clear q0 qb
      obtain ⟨j, hj, rfl, hI, bf, hbw⟩ := hrel
      have cf4 := Joins.cell_of_block bf 4
      by_cases hlt : j < f.ls.length
      · obtain ⟨b, off, x, rfl, hb, hx0, x0, x1, x2, x3, x4⟩ := H.out j hlt
        have hst := looks_step (S := (f.ls.take j).map Lk.id) hx0
        have hI2 := hI.out.trans hst
        have HI2 := Lib.hid hI2
        have hx := Lib.hid hx0
        clear hx0 hst hI2
        have bw : ∀ o, wr.cell? ⟨b, o, none⟩ = w.cell? ⟨b, o, none⟩ := fun o => hbw.cell (p := ⟨b, o, none⟩) hb
        have cx0 := (bw _).trans x0
        have cx1 := (bw _).trans x1
        have cx2 := (bw _).trans x2
        have cx3 := (bw _).trans x3
        have cx4 := (bw _).trans x4
        have zb : b < wr.heap.size := Nat.lt_of_lt_of_le hb hbw.size
        have hcc := fun W => right_r x W
        unfold lkV at hcc
        cases hag : lookB x with
        | false =>
          rw [hag] at hcc
          obtain rfl : R = 1 := by rw [HI2.out, if_pos hag]
          clear bw hag
          go_wp2_with fail
          refine (hcc _).mono ?_
          rintro e w' ⟨rfl, hF⟩
          have B9 := below_then hbw hF
          go_wp2_with fail
          go_ret
          exact ⟨rfl, B9⟩
        | true =>
          rw [hag] at hcc
          have HI3 : Hid (R = if x.id ∈ (f.ls.take j).map Lk.id then 6 else looksI (f.ls.drop (j + 1)) ((f.ls.take j).map Lk.id ++ [x.id])) := by
            show _ = _; rw [HI2.out, if_neg (by rw [hag]; simp)]
          clear bw hag HI2
          obtain ⟨wo, rfl⟩ : ∃ wo : World, wo = wr := ⟨_, rfl⟩
          go_wp2_with fail
          refine (hcc _).mono ?_
          rintro e w' ⟨rfl, hF⟩
          have bf9 := (hF.block _ (size_of_block bf)).trans bf
          have B9 := below_then hbw hF
          clear hF bf hbw cf4 cx0 cx1 cx2 cx3 cx4 zb
          go_wp2_with fail
          go_loopw [9] (fun i wr => ∃ m : Nat, m ≤ j ∧ i = .int .i64 m ∧ Hid (∀ y ∈ f.ls.take m, y.id ≠ x.id) ∧ wr.heap[w.heap.size]? = some (.cells #[.int .i64 f.rise, .int .i64 f.fall, .int .i64 f.up, .int .i64 f.down, .slice (some ⟨b, off, none⟩) f.ls.length cap] 24) ∧ Below w.heap.size w wr) (fun i _ => j - (intOf i).toNat)
          case atStart => exact ⟨0, Nat.zero_le _, rfl, by intro x hx; simp at hx, bf9, B9⟩
          case round =>
            clear bf9 B9
            obtain ⟨m, hm, rfl, hM, bf, hbw⟩ := hrel
            by_cases hlm : m < j
            · obtain ⟨b2, off2, y, e2, _, hy0, y0, y1, y2, y3, y4⟩ := H.out m (by omega)
              cases e2
              have hy := Lib.hid hy0
              have cf4 := Joins.cell_of_block bf 4
              have zbf := size_of_block bf
              have hml : m < f.ls.length := by omega
              clear hy0 y1 y2 y3 y4
              have bw : ∀ o, wr.cell? ⟨b, o, none⟩ = w.cell? ⟨b, o, none⟩ := fun o => hbw.cell (p := ⟨b, o, none⟩) hb
              have cx0 := (bw _).trans x0
              have cy0 := (bw _).trans y0
              have zb : b < wr.heap.size := Nat.lt_of_lt_of_le hb hbw.size
              clear bw
              by_cases hc : y.id = x.id
              · have d2 : (y.id == x.id) = true := by simpa using hc
                obtain rfl : R = 6 := by
                  rw [HI3.out, if_pos]
                  exact List.mem_map.2 ⟨y, by
                    rw [List.mem_take_iff_getElem]
                    obtain ⟨h1, h2⟩ := List.getElem?_eq_some_iff.1 hy.out
                    exact ⟨m, by omega, h2⟩, hc⟩
                clear hc
                go_wp2_with fail
                refine wp_region_grown (by kernel_rfl) (by kernel_rfl) fun hcg => ?_
                repeat (go_big_quiet_step (fail))
                refine wpQuiet_nil ?_
                intro _ hw'
                obtain ⟨g, hw''⟩ := hw'
                subst hw''
                have B9 := below_then hbw g.b
                go_wp2_with fail
                go_ret
                exact ⟨rfl, B9⟩
              · have d2 : (y.id == x.id) = false := by simpa using hc
                have hM2 : Hid (∀ z ∈ f.ls.take (m + 1), z.id ≠ x.id) := by
                  intro z hz
                  rw [take_snoc hy.out, List.mem_append, List.mem_singleton] at hz
                  rcases hz with hz | rfl
                  · exact hM.out z hz
                  · exact hc
                clear hc
                go_wp2_with fail
                refine wp_region_grown (by kernel_rfl) (by kernel_rfl) fun hcg => ?_
                repeat (go_big_quiet_step (fail))
                refine wpQuiet_nil ?_
                intro _ hw'
                obtain ⟨g, hw''⟩ := hw'
                subst hw''
                have B9 := below_then hbw g.b
                have bf9 := (g.b.block _ (size_of_block bf)).trans bf
                go_wp2_with fail
                go_roundw
                case rel => exact ⟨m + 1, by omega, by go_num, hM2, bf9, B9⟩
                case measure => simp [intOf]; omega
            · obtain rfl : m = j := by omega
              have hI9 : Hid (R = looksI (f.ls.drop (m + 1)) ((f.ls.take (m + 1)).map Lk.id)) := by
                show _ = _
                rw [HI3.out, if_neg, take_map_snoc Lk.id hx.out]
                rw [List.mem_map]
                rintro ⟨z, hz, e⟩
                exact hM.out z hz e
              go_wp2_with fail
              go_roundw
              case rel => exact ⟨m + 1, by omega, by go_num, hI9, bf, hbw⟩
              case measure => simp [intOf]; omega
      · obtain rfl : j = f.ls.length := by omega
        obtain rfl : R = 0 := by
          rw [hI.out, List.drop_length]; rfl
        go_wp2_with fail
        go_ret
        exact ⟨rfl, hbw⟩
theorem CheckR_c (f : Fi) (vl : Value) (w : World) (hl : Lks w w.heap.size vl f.ls) :
    Calls Tryz.prog 19 #[fiV f vl] w fun e w' => e = .returned (.int .i64 (fireI f)) ∧ Below w.heap.size w w' := by
  unfold fireI
  cases hs : slopeB f with
  | false =>
    rw [if_pos rfl]
    obtain ⟨A, cap, rfl⟩ := hl.form
    exact CheckR_bad f A _ cap w hs
  | true =>
    rw [if_neg (by simp)]
    exact CheckR_ok f vl w hl hs
end Go.Proofs.YtjpoacffnpgjdaaGreat
