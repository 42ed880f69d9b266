/- Texts joined: FProgA. -/
import Derived.Test.YtjpoacffnpgjdaaGreatProg
import Derived.Test.YtjpoacffnpgjdaaGreatJ2
import Derived.Lib.MinMax
/- What the small functions of the program for fires return. -/
namespace Go.Proofs.YtjpoacffnpgjdaaGreat
open Go.RowKit

theorem isNoHeat_c (n : Int) (w : World) : Calls Tryz.prog 117 #[.int .i64 n] w fun e w' => e = .returned (.bool (!heatB n)) ∧ w = w' := by
  by_cases h : n < 0
  · go_enter Tryz.func117, Tryz.ntmps117
    go_wp2
    go_ret
    exact ⟨ret_bool (by simp [heatB, inF]; omega), rfl⟩
  · go_enter Tryz.func117, Tryz.ntmps117
    go_wp2
    go_ret
    exact ⟨ret_bool (by rw [Bool.eq_iff_iff]; simp [heatB, inF]; omega), rfl⟩
theorem isNoSpot_c (x : Spt) (w : World) : Calls Tryz.prog 108 #[sV x] w fun e w' => e = .returned (.bool (!spotB x)) ∧ Below w.heap.size w w' := by
  unfold sV
  by_cases h1 : x.foot < 0
  · go_enter Tryz.func108, Tryz.ntmps108
    go_wp2
    go_ret
    exact ⟨ret_bool (by rw [Bool.eq_iff_iff]; simp [spotB, inF]; omega), below_alloc _ _⟩
  · by_cases h2 : 60 < x.foot
    · go_enter Tryz.func108, Tryz.ntmps108
      go_wp2
      go_ret
      exact ⟨ret_bool (by rw [Bool.eq_iff_iff]; simp [spotB, inF]; omega), below_alloc _ _⟩
    · by_cases h3 : x.hour < 0
      · go_enter Tryz.func108, Tryz.ntmps108
        go_wp2
        go_ret
        exact ⟨ret_bool (by rw [Bool.eq_iff_iff]; simp [spotB, inF]; omega), below_alloc _ _⟩
      · go_enter Tryz.func108, Tryz.ntmps108
        go_wp2
        go_ret
        exact ⟨ret_bool (by rw [Bool.eq_iff_iff]; simp [spotB, inF]; omega), below_alloc _ _⟩
theorem isLook_c (x : Lk) (w : World) : Calls Tryz.prog 72 #[lkV x] w fun e w' => e = .returned (.bool (lookB x)) ∧ Below w.heap.size w w' := by
  unfold lkV
  by_cases h1 : 1 ≤ x.id
  · by_cases h2 : x.id ≤ 1099511627776
    · rcases Bool.eq_false_or_eq_true (spotB x.at_) with q1 | q1
      · rcases Bool.eq_false_or_eq_true (heatB x.lo) with q2 | q2
        · rcases Bool.eq_false_or_eq_true (heatB x.hi) with q3 | q3
          · go_enter Tryz.func72, Tryz.ntmps72
            go_wp2_with fail
            refine (isNoSpot_c x.at_ _).mono ?_
            rintro e w1 ⟨rfl, hb1⟩
            obtain ⟨hc1, hf1⟩ := bcell hb1
            have hs1 := hb1.size
            simp only [World.size_alloc] at hs1
            have hz1 : w.heap.size < w1.heap.size := by omega
            rw [q1]
            go_wp2_with fail
            refine (isNoHeat_c x.lo _).mono ?_
            rintro e w2 ⟨rfl, rfl⟩
            rw [q2]
            go_wp2_with fail
            refine (isNoHeat_c x.hi _).mono ?_
            rintro e w2 ⟨rfl, rfl⟩
            rw [q3]
            go_wp2_with fail
            go_ret
            exact ⟨ret_bool (by simp [lookB, inF, h1, h2, q1, q2, q3]), below_then (below_alloc _ _) hb1⟩
          · go_enter Tryz.func72, Tryz.ntmps72
            go_wp2_with fail
            refine (isNoSpot_c x.at_ _).mono ?_
            rintro e w1 ⟨rfl, hb1⟩
            obtain ⟨hc1, hf1⟩ := bcell hb1
            have hs1 := hb1.size
            simp only [World.size_alloc] at hs1
            have hz1 : w.heap.size < w1.heap.size := by omega
            rw [q1]
            go_wp2_with fail
            refine (isNoHeat_c x.lo _).mono ?_
            rintro e w2 ⟨rfl, rfl⟩
            rw [q2]
            go_wp2_with fail
            refine (isNoHeat_c x.hi _).mono ?_
            rintro e w2 ⟨rfl, rfl⟩
            rw [q3]
            go_wp2_with fail
            go_ret
            exact ⟨ret_bool (by simp [lookB, q3]), below_then (below_alloc _ _) hb1⟩
        · go_enter Tryz.func72, Tryz.ntmps72
          go_wp2_with fail
          refine (isNoSpot_c x.at_ _).mono ?_
          rintro e w1 ⟨rfl, hb1⟩
          obtain ⟨hc1, hf1⟩ := bcell hb1
          have hs1 := hb1.size
          simp only [World.size_alloc] at hs1
          have hz1 : w.heap.size < w1.heap.size := by omega
          rw [q1]
          go_wp2_with fail
          refine (isNoHeat_c x.lo _).mono ?_
          rintro e w2 ⟨rfl, rfl⟩
          rw [q2]
          go_wp2_with fail
          go_ret
          exact ⟨ret_bool (by simp [lookB, q2]), below_then (below_alloc _ _) hb1⟩
      · go_enter Tryz.func72, Tryz.ntmps72
        go_wp2_with fail
        refine (isNoSpot_c x.at_ _).mono ?_
        rintro e w1 ⟨rfl, hb1⟩
        obtain ⟨hc1, hf1⟩ := bcell hb1
        have hs1 := hb1.size
        simp only [World.size_alloc] at hs1
        have hz1 : w.heap.size < w1.heap.size := by omega
        rw [q1]
        go_wp2_with fail
        go_ret
        exact ⟨ret_bool (by simp [lookB, q1]), below_then (below_alloc _ _) hb1⟩
    · go_enter Tryz.func72, Tryz.ntmps72
      go_wp2_with fail
      go_ret
      exact ⟨ret_bool (by simp [lookB, inF, show ¬ x.id ≤ 1099511627776 by omega]), below_alloc _ _⟩
  · go_enter Tryz.func72, Tryz.ntmps72
    go_wp2_with fail
    go_ret
    exact ⟨ret_bool (by simp [lookB, inF, show ¬ 1 ≤ x.id by omega]), below_alloc _ _⟩

theorem slopesOf_c (f : Fi) (A : Option Addr) (n cap : Nat) (w : World) :
    Calls Tryz.prog 56 #[fiV f (.slice A n cap)] w fun e w' => e = .returned (slV f) ∧ Below w.heap.size w w' := by
  unfold fiV
  go_enter Tryz.func56, Tryz.ntmps56
  go_wp2
  exact bodyPost_ret (v := slV f) (by simp [slV, results, Tryz.results56, go_sem]) rfl ⟨rfl, below_then (below_alloc _ _) (below_alloc _ _)⟩
theorem Tryz.idx0 (a b c d : Value) (w : World) : (Instr.index 104 (.agg #[a, b, c, d]) (.int .i64 0)).run Tryz.prog w = .ok a w := by kernel_rfl
theorem Tryz.idx1 (a b c d : Value) (w : World) : (Instr.index 104 (.agg #[a, b, c, d]) (.int .i64 1)).run Tryz.prog w = .ok b w := by kernel_rfl
theorem Tryz.idx2 (a b c d : Value) (w : World) : (Instr.index 104 (.agg #[a, b, c, d]) (.int .i64 2)).run Tryz.prog w = .ok c w := by kernel_rfl
theorem Tryz.idx3 (a b c d : Value) (w : World) : (Instr.index 104 (.agg #[a, b, c, d]) (.int .i64 3)).run Tryz.prog w = .ok d w := by kernel_rfl
/-- The sum of the first terms. -/
def farP (f : Fi) (a b c d : Int) : Nat → Int
  | 0 => 0
  | 1 => a * f.rise
  | 2 => a * f.rise + b * f.fall
  | 3 => a * f.rise + b * f.fall + c * f.up
  | _ => a * f.rise + b * f.fall + c * f.up + d * f.down
set_option maxHeartbeats 4000000 in
set_option maxRecDepth 100000 in
theorem far_c (f : Fi) (p q : Spt) (w : World) (hf : slopeB f = true) (hp : spotB p = true) (hq : spotB q = true) :
    Calls Tryz.prog 57 #[slV f, sV p, sV q] w fun e w' => e = .returned (.int .i64 (farI f p q)) ∧ Below w.heap.size w w' := by
  unfold slV sV
  have i0 := Tryz.idx0
  have i1 := Tryz.idx1
  have i2 := Tryz.idx2
  have i3 := Tryz.idx3
  have key : ∀ a b m : Int, 0 ≤ a → a ≤ m → 0 ≤ b → b ≤ 200 → 0 ≤ a * b ∧ a * b ≤ m * 200 := fun a b m ha hm hb hb2 =>
    ⟨Int.mul_nonneg ha hb, Int.mul_le_mul hm hb2 hb (by omega)⟩
  have g1 := slope_iff.1 hf
  have g2 := spot_iff.1 hp
  have g3 := spot_iff.1 hq
  obtain ⟨a, ha⟩ : ∃ a, a = max (q.hour - p.hour) 0 := ⟨_, rfl⟩
  obtain ⟨b, hb⟩ : ∃ a, a = max (-(q.hour - p.hour)) 0 := ⟨_, rfl⟩
  obtain ⟨c, hc⟩ : ∃ a, a = max (q.foot - p.foot) 0 := ⟨_, rfl⟩
  obtain ⟨d, hd⟩ : ∃ a, a = max (-(q.foot - p.foot)) 0 := ⟨_, rfl⟩
  have a1 := key a f.rise 16384 (by omega) (by omega) (by omega) (by omega)
  have a2 := key b f.fall 16384 (by omega) (by omega) (by omega) (by omega)
  have a3 := key c f.up 60 (by omega) (by omega) (by omega) (by omega)
  have a4 := key d f.down 60 (by omega) (by omega) (by omega) (by omega)
  have HR : Hid (farI f p q = farP f a b c d 4) := by
    show farI f p q = _
    unfold farI
    rw [show max 0 (q.hour - p.hour) = a by omega, show max 0 (p.hour - q.hour) = b by omega, show max 0 (q.foot - p.foot) = c by omega, show max 0 (p.foot - q.foot) = d by omega]
    simp only [farP]; omega
  clear key hf hp hq
  go_enter Tryz.func57, Tryz.ntmps57
  go_wp2_with fail
  go_quiet (fail)
  go_wp2_with fail
  rw [← ha, ← hb, ← hc, ← hd]
  have HA := Lib.hid ha
  have HB := Lib.hid hb
  have HC := Lib.hid hc
  have HD := Lib.hid hd
  clear ha hb hc hd
  go_loopw [10, 35] (fun s i wr => ∃ j : Nat, j ≤ 4 ∧ i = .int .i64 j ∧ s = .int .i64 (farP f a b c d j) ∧ Below w.heap.size w wr ∧ w.heap.size < wr.heap.size ∧ wr.cell? ⟨w.heap.size, 0, none⟩ = some (.int .i64 f.rise) ∧ wr.cell? ⟨w.heap.size, 1, none⟩ = some (.int .i64 f.fall) ∧ wr.cell? ⟨w.heap.size, 2, none⟩ = some (.int .i64 f.up) ∧ wr.cell? ⟨w.heap.size, 3, none⟩ = some (.int .i64 f.down)) (fun _ i _ => 4 - (intOf i).toNat)
  case atStart => exact ⟨0, by omega, rfl, rfl, below_then (below_drewN (below_then (below_then (below_alloc _ _) (below_alloc _ _)) (below_alloc _ _)) _) (below_alloc _ _), by simp; omega, by simp [go_sem], by simp [go_sem], by simp [go_sem], by simp [go_sem]⟩
  case round =>
    obtain ⟨j, hj, rfl, rfl, hb, hz, c0, c1, c2, c3⟩ := hrel
    have hj5 : j = 0 ∨ j = 1 ∨ j = 2 ∨ j = 3 ∨ j = 4 := by omega
    rcases hj5 with rfl | rfl | rfl | rfl | rfl <;> simp only [farP]
    · go_wp2
      go_roundw
      case rel => exact ⟨1, by omega, by go_num, by simp, hb, hz, c0, c1, c2, c3⟩
      case measure => simp [intOf]
    · go_wp2
      go_roundw
      case rel => exact ⟨2, by omega, by go_num, by simp, hb, hz, c0, c1, c2, c3⟩
      case measure => simp [intOf]
    · go_wp2
      go_roundw
      case rel => exact ⟨3, by omega, by go_num, by simp, hb, hz, c0, c1, c2, c3⟩
      case measure => simp [intOf]
    · go_wp2
      go_roundw
      case rel => exact ⟨4, by omega, by go_num, by simp, hb, hz, c0, c1, c2, c3⟩
      case measure => simp [intOf]
    · go_wp2
      go_ret
      exact ⟨ret_int (by rw [HR.out]; rfl), hb⟩
end Go.Proofs.YtjpoacffnpgjdaaGreat
