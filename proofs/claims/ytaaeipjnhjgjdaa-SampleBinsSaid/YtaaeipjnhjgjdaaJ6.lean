/- Texts joined: 3RefB 3RefC 3RefD 3Wholes 3Check 3Weights 3RefE 3RefF 3Ends 3RefG 3RefH 3RefI 3RefJ 3RefK 3RefL 3Data4 3RefM 3RefN 3RefO. -/
import Derived.Test.YtaaeipjnhjgjdaaJ4
import Derived.Test.YtaaeipjnhjgjdaaJ5
import Derived.Test.YtaaeipjnhjgjdaaJ1
import Derived.Test.YtaaeipjnhjgjdaaJ3
/- What the reference for samples chooses, and which fractions are levels. -/
namespace Go.Proofs.Ytaaeipjnhjgjdaa
open Go.RowKit

theorem choose3_c (n k : Int) (w : World) (h0 : 0 ≤ n) (h : n ≤ 50) (hk : 0 ≤ k) :
    Calls Try.prog 121 #[.int .i64 n, .int .i64 k] w fun e w' => e = .returned (.int .i64 (chooseI n k)) ∧ Below w.heap.size w w' := by
  obtain ⟨n, rfl⟩ := Int.eq_ofNat_of_zero_le h0
  obtain ⟨k, rfl⟩ := Int.eq_ofNat_of_zero_le hk
  by_cases hlt : n < k
  · have hd : ((k : Int) > n) := by omega
    go_enter Try.func121, Try.ntmps121
    go_wp2
    go_ret
    exact ⟨ret_int (by rw [chooseI_gt (by omega) (by omega)]), Below.refl _ _⟩
  · go_enter Try.func121, Try.ntmps121
    go_wp2_with fail
    refine (table_c n w (by omega)).mono ?_
    rintro e w1 ⟨v, bs, rfl, hT, hb⟩
    obtain ⟨g, cap, rfl⟩ := Joins.ownsRow_form hT.own (by omega)
    have c1 := hT.at_ (j := n) (by omega)
    have c2 := hT.cell (j := n) (k := k) (by omega) (by omega)
    go_wp2_with fail
    go_ret
    exact ⟨ret_int (by simp [chooseI]), hb⟩

theorem level3_c (r : Rt) (w : World) :
    Calls Try.prog 120 #[rtV r] w fun e w' => e = .returned (.bool (levelB r)) ∧ Below w.heap.size w w' := by
  unfold rtV
  rcases Bool.eq_false_or_eq_true (inI r.den 1 10000) with h1 | h1
  · rcases Bool.eq_false_or_eq_true (inI r.num 0 r.den) with h2 | h2
    · have b1 : 1 ≤ r.den ∧ r.den ≤ 10000 := by simpa [inI] using h1
      have b2 : 0 ≤ r.num ∧ r.num ≤ r.den := by simpa [inI] using h2
      have H1 := Lib.hid h1
      have H2 := Lib.hid h2
      clear h1 h2
      have heq := Try.eqRt
      go_enter Try.func120, Try.ntmps120
      go_wp2
      refine wp_region_grown (by kernel_rfl) (by kernel_rfl) fun hcg => ?_
      repeat (go_big_quiet_step (first | (go_at_call 88; first | exact Calls.grown (in3_b _ H1.out) | exact Calls.grown (in3_b _ H2.out)) | (go_at_call 98; exact Calls.grown (ratio3_c _ _ _ (by omega) (by omega) (by omega) (by omega)))))
      refine wpQuiet_nil ?_
      intro _ hw'
      obtain ⟨g, hw''⟩ := hw'
      subst hw''
      go_wp2
      go_ret
      exact ⟨ret_bool (by simp [levelB, H1.out, H2.out]), below_then (below_alloc _ _) g.b⟩
    · have H1 := Lib.hid h1
      have H2 := Lib.hid h2
      clear h1 h2
      go_enter Try.func120, Try.ntmps120
      go_wp2
      refine wp_region_grown (by kernel_rfl) (by kernel_rfl) fun hcg => ?_
      repeat (go_big_quiet_step (first | (go_at_call 88; first | exact Calls.grown (in3_b _ H1.out) | exact Calls.grown (in3_b _ H2.out))))
      refine wpQuiet_nil ?_
      intro _ hw'
      obtain ⟨g, hw''⟩ := hw'
      subst hw''
      go_wp2
      go_ret
      exact ⟨ret_bool (by simp [levelB, H2.out]), below_then (below_alloc _ _) g.b⟩
  · have H1 := Lib.hid h1
    clear h1
    go_enter Try.func120, Try.ntmps120
    go_wp2
    refine wp_region_grown (by kernel_rfl) (by kernel_rfl) fun hcg => ?_
    repeat (go_big_quiet_step (first | (go_at_call 88; exact Calls.grown (in3_b _ H1.out))))
    refine wpQuiet_nil ?_
    intro _ hw'
    obtain ⟨g, hw''⟩ := hw'
    subst hw''
    go_wp2
    go_ret
    exact ⟨ret_bool (by simp [levelB, H1.out]), below_then (below_alloc _ _) g.b⟩
end Go.Proofs.Ytaaeipjnhjgjdaa
/- What the reference for samples returns for wholes and samples. -/
namespace Go.Proofs.Ytaaeipjnhjgjdaa
open Go.RowKit

def waysP (x s : K3) : Nat → Int
  | 0 => 1
  | 1 => chooseI x.a s.a
  | 2 => chooseI x.a s.a * chooseI x.b s.b
  | _ => waysI x s
theorem waysP_ok {x s : K3} (hx : wholeP x) : ∀ j, 0 ≤ waysP x s j ∧ waysP x s j ≤ 126410606437752
  | 0 => by simp [waysP]
  | 1 => ⟨chooseI_nonneg _ _, chooseI_le _ (by obtain ⟨a, b, c, d⟩ := hx; omega)⟩
  | 2 => ⟨Int.mul_nonneg (chooseI_nonneg _ _) (chooseI_nonneg _ _), choose_mul_le hx.1 hx.2.1 (by obtain ⟨a, b, c, d⟩ := hx; omega)⟩
  | _ + 3 => ⟨waysI_nonneg _ _, waysI_le hx⟩
theorem ways3_c (x s : K3) (w : World) (hx : wholeP x) (hs : sortedB s = true) :
    Calls Try.prog 133 #[k3V x, k3V s] w fun e w' => e = .returned (.int .i64 (waysI x s)) ∧ Below w.heap.size w w' := by
  simp only [sortedB, Bool.and_eq_true, decide_eq_true_eq] at hs
  obtain ⟨⟨s1, s2⟩, s3⟩ := hs
  have hok := waysP_ok (s := s) hx
  have H0 := hok 0
  have H1 := hok 1
  have H2 := hok 2
  have H3 := hok 3
  clear hok
  obtain ⟨x1, x2, x3, x4⟩ := hx
  go_enter Try.func133, Try.ntmps133
  go_wp2
  go_loopw [5, 6] (fun n i wr => ∃ j : Nat, j ≤ 3 ∧ i = .int .i64 j ∧ n = .int .i64 (waysP x s j) ∧ Below (w.heap.size + 2) ((w.alloc (.cells #[.int .i64 x.a, .int .i64 x.b, .int .i64 x.c] 23)).alloc (.cells #[.int .i64 s.a, .int .i64 s.b, .int .i64 s.c] 23)) wr) (fun _ i _ => 3 - (intOf i).toNat)
  case atStart => exact ⟨0, by omega, rfl, rfl, Below.refl _ _⟩
  case round =>
    obtain ⟨j, hj, rfl, rfl, hb⟩ := hrel
    have hbs := hb.size
    simp only [World.size_alloc] at hbs
    have hz0 : w.heap.size < wr.heap.size := by omega
    have hz1 : w.heap.size + 1 < wr.heap.size := by omega
    obtain ⟨hc, hf⟩ := bcellB hb
    have hj4 : j = 0 ∨ j = 1 ∨ j = 2 ∨ j = 3 := by omega
    rcases hj4 with rfl | rfl | rfl | rfl
    · have m1 : (1 : Int) * chooseI x.a s.a = waysP x s 1 := by rw [Int.one_mul]; rfl
      rw [show waysP x s 0 = 1 from rfl]
      go_wp2
      refine wp_region_grown (by kernel_rfl) (by kernel_rfl) fun hcg => ?_
      repeat (go_big_quiet_step (first | (go_at_call 121; exact Calls.grown (choose3_c _ _ _ (by omega) (by omega) (by omega)))))
      refine wpQuiet_nil ?_
      intro _ hw'
      obtain ⟨g, hw''⟩ := hw'
      subst hw''
      have hB := hb.trans (g.b.mono (by omega))
      clear m1
      go_wp2
      go_roundw
      case rel => exact ⟨1, by omega, by go_num, rfl, hB⟩
      case measure => simp [intOf]
    · have m1 : waysP x s 1 * chooseI x.b s.b = waysP x s 2 := rfl
      go_wp2
      refine wp_region_grown (by kernel_rfl) (by kernel_rfl) fun hcg => ?_
      repeat (go_big_quiet_step (first | (go_at_call 121; exact Calls.grown (choose3_c _ _ _ (by omega) (by omega) (by omega)))))
      refine wpQuiet_nil ?_
      intro _ hw'
      obtain ⟨g, hw''⟩ := hw'
      subst hw''
      have hB := hb.trans (g.b.mono (by omega))
      clear m1
      go_wp2
      go_roundw
      case rel => exact ⟨2, by omega, by go_num, rfl, hB⟩
      case measure => simp [intOf]
    · have m1 : waysP x s 2 * chooseI x.c s.c = waysP x s 3 := rfl
      go_wp2
      refine wp_region_grown (by kernel_rfl) (by kernel_rfl) fun hcg => ?_
      repeat (go_big_quiet_step (first | (go_at_call 121; exact Calls.grown (choose3_c _ _ _ (by omega) (by omega) (by omega)))))
      refine wpQuiet_nil ?_
      intro _ hw'
      obtain ⟨g, hw''⟩ := hw'
      subst hw''
      have hB := hb.trans (g.b.mono (by omega))
      clear m1
      go_wp2
      go_roundw
      case rel => exact ⟨3, by omega, by go_num, rfl, hB⟩
      case measure => simp [intOf]
    · go_wp2
      go_ret
      exact ⟨rfl, below_then (below_alloc _ _) (below_then (below_alloc _ _) (hb.mono (by simp)))⟩

theorem sorted3_b {k : K3} {b : Bool} (w : World) (h : sortedB k = b) : Calls Try.prog 89 #[k3V k] w fun e w' => e = .returned (.bool b) ∧ Below w.heap.size w w' :=
  (sorted3_c k w).mono fun _ _ ⟨a, b⟩ => ⟨by rw [a, h], b⟩
theorem whole3_c (x : K3) (w : World) :
    Calls Try.prog 132 #[k3V x] w fun e w' => e = .returned (.bool (wholeB x)) ∧ Below w.heap.size w w' := by
  rcases Bool.eq_false_or_eq_true (sortedB x) with h1 | h1
  · have hq := Lib.hid h1
    clear h1
    go_enter Try.func132, Try.ntmps132
    go_wp2_with fail
    refine (sorted3_b _ hq.out).mono ?_
    rintro e w1 ⟨rfl, hb1⟩
    obtain ⟨hc1, hf1⟩ := bcell hb1
    have hs1 := hb1.size
    simp only [World.size_alloc] at hs1
    have hz1 : w.heap.size < w1.heap.size := by omega
    go_wp2_with fail
    refine (all3_c _ _ hq.out).mono ?_
    rintro e w2 ⟨rfl, hb2⟩
    go_wp2_with fail
    refine (in3_c _ _ _ _).mono ?_
    rintro e w3 ⟨rfl, rfl⟩
    go_wp2_with fail
    go_ret
    exact ⟨ret_bool (by simp [wholeB, hq.out]), below_then (below_alloc _ _) (below_then hb1 hb2)⟩
  · have hq := Lib.hid h1
    clear h1
    go_enter Try.func132, Try.ntmps132
    go_wp2_with fail
    refine (sorted3_b _ hq.out).mono ?_
    rintro e w1 ⟨rfl, hb1⟩
    go_wp2_with fail
    go_ret
    exact ⟨ret_bool (by simp [wholeB, hq.out]), below_then (below_alloc _ _) hb1⟩

theorem Choose3_c (n k : Int) (w : World) :
    Calls Try.prog 68 #[.int .i64 n, .int .i64 k] w fun e w' => e = .returned (.tuple #[.int .i64 (chooseR n k).1, .int .i64 (chooseR n k).2]) ∧ Below w.heap.size w w' := by
  rcases Bool.eq_false_or_eq_true (inI n 0 50) with h1 | h1
  · by_cases h2 : 0 ≤ k
    · have b1 : 0 ≤ n ∧ n ≤ 50 := by simpa [inI] using h1
      have hr : chooseR n k = (chooseI n k, 0) := by simp [chooseR, h1, h2]
      rw [hr]
      have hq := Lib.hid h1
      clear h1 hr
      go_enter Try.func68, Try.ntmps68
      go_wp2_with fail
      refine (in3_c _ _ _ _).mono ?_
      rintro e w1 ⟨rfl, rfl⟩
      rw [hq.out]
      go_wp2_with fail
      refine (choose3_c _ _ _ b1.1 b1.2 h2).mono ?_
      rintro e w1 ⟨rfl, hb1⟩
      go_wp2_with fail
      go_ret2
      exact ⟨rfl, hb1⟩
    · have hr : chooseR n k = (0, 1) := by simp [chooseR, h2]
      rw [hr]
      have hq := Lib.hid h1
      clear h1 hr
      go_enter Try.func68, Try.ntmps68
      go_wp2_with fail
      refine (in3_c _ _ _ _).mono ?_
      rintro e w1 ⟨rfl, rfl⟩
      rw [hq.out]
      go_wp2_with fail
      go_ret2
      exact ⟨rfl, Below.refl _ _⟩
  · have hr : chooseR n k = (0, 1) := by simp [chooseR, h1]
    rw [hr]
    have hq := Lib.hid h1
    clear h1 hr
    go_enter Try.func68, Try.ntmps68
    go_wp2_with fail
    refine (in3_c _ _ _ _).mono ?_
    rintro e w1 ⟨rfl, rfl⟩
    rw [hq.out]
    go_wp2_with fail
    go_ret2
    exact ⟨rfl, Below.refl _ _⟩
end Go.Proofs.Ytaaeipjnhjgjdaa
/- What the reference for samples says of ways and chances. -/
namespace Go.Proofs.Ytaaeipjnhjgjdaa
open Go.RowKit

theorem whole3_b {x : K3} {b : Bool} (w : World) (h : wholeB x = b) : Calls Try.prog 132 #[k3V x] w fun e w' => e = .returned (.bool b) ∧ Below w.heap.size w w' :=
  (whole3_c x w).mono fun _ _ ⟨a, b⟩ => ⟨by rw [a, h], b⟩
theorem Ways3_c (x s : K3) (w : World) :
    Calls Try.prog 69 #[k3V x, k3V s] w fun e w' => e = .returned (.tuple #[.int .i64 (waysR x s).1, .int .i64 (waysR x s).2]) ∧ Below w.heap.size w w' := by
  rcases Bool.eq_false_or_eq_true (wholeB x) with h1 | h1
  · rcases Bool.eq_false_or_eq_true (sortedB s) with h2 | h2
    · rw [show waysR x s = (waysI x s, 0) by simp [waysR, h1, h2]]
      have hq := Lib.hid h1
      have hr := Lib.hid h2
      clear h1 h2
      go_enter Try.func69, Try.ntmps69
      go_wp2_with fail
      refine (whole3_b _ hq.out).mono ?_
      rintro e w1 ⟨rfl, hb1⟩
      obtain ⟨hc1, hf1⟩ := bcell hb1
      have hs1 := hb1.size
      simp only [World.size_alloc] at hs1
      have hz1 : w.heap.size < w1.heap.size := by omega
      have hy1 : w.heap.size + 1 < w1.heap.size := by omega
      go_wp2_with fail
      refine (sorted3_b _ hr.out).mono ?_
      rintro e w2 ⟨rfl, hb2⟩
      obtain ⟨hc2, hf2⟩ := bcell hb2
      have hs2 := hb2.size
      have hz2 : w.heap.size < w2.heap.size := by omega
      have hy2 : w.heap.size + 1 < w2.heap.size := by omega
      go_wp2_with fail
      refine (ways3_c _ _ _ (wholeB_P hq.out).1 hr.out).mono ?_
      rintro e w3 ⟨rfl, hb3⟩
      go_wp2_with fail
      go_ret2
      exact ⟨rfl, below_then (below_alloc _ _) (below_then (below_alloc _ _) (below_then hb1 (below_then hb2 hb3)))⟩
    · rw [show waysR x s = (0, 1) by simp [waysR, h2]]
      have hq := Lib.hid h1
      have hr := Lib.hid h2
      clear h1 h2
      go_enter Try.func69, Try.ntmps69
      go_wp2_with fail
      refine (whole3_b _ hq.out).mono ?_
      rintro e w1 ⟨rfl, hb1⟩
      obtain ⟨hc1, hf1⟩ := bcell hb1
      have hs1 := hb1.size
      simp only [World.size_alloc] at hs1
      have hz1 : w.heap.size < w1.heap.size := by omega
      have hy1 : w.heap.size + 1 < w1.heap.size := by omega
      go_wp2_with fail
      refine (sorted3_b _ hr.out).mono ?_
      rintro e w2 ⟨rfl, hb2⟩
      go_wp2_with fail
      go_ret2
      exact ⟨rfl, below_then (below_alloc _ _) (below_then (below_alloc _ _) (below_then hb1 hb2))⟩
  · rw [show waysR x s = (0, 1) by simp [waysR, h1]]
    have hq := Lib.hid h1
    clear h1
    go_enter Try.func69, Try.ntmps69
    go_wp2_with fail
    refine (whole3_b _ hq.out).mono ?_
    rintro e w1 ⟨rfl, hb1⟩
    go_wp2_with fail
    go_ret2
    exact ⟨rfl, below_then (below_alloc _ _) (below_then (below_alloc _ _) hb1)⟩

theorem Chance3_c (x s : K3) (w : World) :
    Calls Try.prog 71 #[k3V x, k3V s] w fun e w' => e = .returned (.tuple #[rtV (chanceR x s).1, .int .i64 (chanceR x s).2]) ∧ Below w.heap.size w w' := by
  rcases Bool.eq_false_or_eq_true (wholeB x) with h1 | h1
  · rcases Bool.eq_false_or_eq_true (sortedB s) with h2 | h2
    · obtain ⟨hp, hal, ha1⟩ := wholeB_P h1
      have hso : sortedB x = true := by simp only [wholeB, Bool.and_eq_true] at h1; exact h1.1
      have har := allI_range h2
      have ha50 : allI x ≤ 50 := by unfold wholeP at hp; omega
      have hHal := Lib.hid hal
      clear hal
      by_cases hlt : allI x < allI s
      · rw [show chanceR x s = (⟨0, 0⟩, 3) by simp [chanceR, h1, h2, hlt]]
        have hq := Lib.hid h1
        have hr := Lib.hid h2
        have hso := Lib.hid hso
        clear h1 h2
        go_enter Try.func71, Try.ntmps71
        go_wp2_with fail
        refine (whole3_b _ hq.out).mono ?_
        rintro e w1 ⟨rfl, hb1⟩
        obtain ⟨hc1, hf1⟩ := bcell hb1
        have hs1 := hb1.size
        simp only [World.size_alloc] at hs1
        have hz1 : w.heap.size < w1.heap.size := by omega
        have hy1 : w.heap.size + 1 < w1.heap.size := by omega
        have hx1 : w.heap.size + 1 + 1 < w1.heap.size := by omega
        go_wp2_with fail
        refine (sorted3_b _ hr.out).mono ?_
        rintro e w2 ⟨rfl, hb2⟩
        obtain ⟨hc2, hf2⟩ := bcell hb2
        have hs2 := hb2.size
        have hz2 : w.heap.size < w2.heap.size := by omega
        have hy2 : w.heap.size + 1 < w2.heap.size := by omega
        have hx2 : w.heap.size + 1 + 1 < w2.heap.size := by omega
        go_wp2_with fail
        refine wp_region_grown (by kernel_rfl) (by kernel_rfl) fun hcg => ?_
        repeat (go_big_quiet_step (first | (go_at_call 90; first | exact Calls.grown (all3_c _ _ hr.out) | exact Calls.grown (all3_c _ _ hso.out))))
        refine wpQuiet_nil ?_
        intro _ hw'
        obtain ⟨g, hw''⟩ := hw'
        subst hw''
        have hB := below_then hb1 (below_then hb2 g.b)
        have hgs := g.b.size
        have hx3 : w.heap.size + 1 + 1 < g.val.heap.size := by omega
        have hz3 : w.heap.size < g.val.heap.size := by omega
        have hy3 : w.heap.size + 1 < g.val.heap.size := by omega
        obtain ⟨hc3, hf3⟩ := bcell g.b
        have hd0 : g.val.cell? ⟨w.heap.size + 1 + 1, 0, none⟩ = some (.int .i64 0) := (hB.cell (p := ⟨w.heap.size + 1 + 1, 0, none⟩) (by simp)).trans (by go_simp)
        have hd1 : g.val.cell? ⟨w.heap.size + 1 + 1, 1, none⟩ = some (.int .i64 0) := (hB.cell (p := ⟨w.heap.size + 1 + 1, 1, none⟩) (by simp)).trans (by go_simp)
        go_wp2
        refine bodyPost_ret (v := .tuple #[rtV ⟨0, 0⟩, .int .i64 3]) ?_ rfl ⟨rfl, ?_⟩
        · simp [results, Try.results71, go_sem, hd0, hd1]
        · exact (((below_then (below_alloc _ _) (below_then (below_alloc _ _) (below_then (below_alloc _ _) hB))).setCell (by simp; omega) _).setCell (by simp; omega) _)
      · rw [show chanceR x s = (ratioI (waysI x s) (chooseI (allI x) (allI s)), 0) by simp [chanceR, h1, h2, hlt]]
        have hq := Lib.hid h1
        have hr := Lib.hid h2
        have hso := Lib.hid hso
        have hw0 := waysI_nonneg x s
        have hw1 := waysI_le (s := s) hp
        have hc0 : 0 < chooseI (allI x) (allI s) := by unfold chooseI; have := Cb_pos (n := (allI x).toNat) (k := (allI s).toNat) (by omega); omega
        have hcc := chooseI_le (n := allI x) (allI s) ha50
        clear h1 h2
        go_enter Try.func71, Try.ntmps71
        go_wp2_with fail
        refine (whole3_b _ hq.out).mono ?_
        rintro e w1 ⟨rfl, hb1⟩
        obtain ⟨hc1, hf1⟩ := bcell hb1
        have hs1 := hb1.size
        simp only [World.size_alloc] at hs1
        have hz1 : w.heap.size < w1.heap.size := by omega
        have hy1 : w.heap.size + 1 < w1.heap.size := by omega
        have hx1 : w.heap.size + 1 + 1 < w1.heap.size := by omega
        go_wp2_with fail
        refine (sorted3_b _ hr.out).mono ?_
        rintro e w2 ⟨rfl, hb2⟩
        obtain ⟨hc2, hf2⟩ := bcell hb2
        have hs2 := hb2.size
        have hz2 : w.heap.size < w2.heap.size := by omega
        have hy2 : w.heap.size + 1 < w2.heap.size := by omega
        have hx2 : w.heap.size + 1 + 1 < w2.heap.size := by omega
        go_wp2_with fail
        refine wp_region_grown (by kernel_rfl) (by kernel_rfl) fun hcg => ?_
        repeat (go_big_quiet_step (first | (go_at_call 90; first | exact Calls.grown (all3_c _ _ hr.out) | exact Calls.grown (all3_c _ _ hso.out))))
        refine wpQuiet_nil ?_
        intro _ hw'
        obtain ⟨g, hw''⟩ := hw'
        subst hw''
        have hB := below_then hb1 (below_then hb2 g.b)
        have hgs := g.b.size
        have hx3 : w.heap.size + 1 + 1 < g.val.heap.size := by omega
        have hz3 : w.heap.size < g.val.heap.size := by omega
        have hy3 : w.heap.size + 1 < g.val.heap.size := by omega
        obtain ⟨hc3, hf3⟩ := bcell g.b
        have hd0 : g.val.cell? ⟨w.heap.size + 1 + 1, 0, none⟩ = some (.int .i64 0) := (hB.cell (p := ⟨w.heap.size + 1 + 1, 0, none⟩) (by simp)).trans (by go_simp)
        have hd1 : g.val.cell? ⟨w.heap.size + 1 + 1, 1, none⟩ = some (.int .i64 0) := (hB.cell (p := ⟨w.heap.size + 1 + 1, 1, none⟩) (by simp)).trans (by go_simp)
        go_wp2_with fail
        refine wp_region_grown_tail 9 (by kernel_rfl) (by kernel_rfl) fun hcg => ?_
        simp only [List.take_succ_cons, List.take_zero, List.drop_succ_cons, List.drop_zero]
        repeat (go_big_quiet_step (first | (go_at_call 90; first | exact Calls.grown (all3_c _ _ hr.out) | exact Calls.grown (all3_c _ _ hso.out)) | (go_at_call 133; exact Calls.grown (ways3_c _ _ _ hp hr.out)) | (go_at_call 121; exact Calls.grown (choose3_c _ _ _ (by omega) (by omega) (by omega))) | (go_at_call 98; exact Calls.grown (ratio3_c _ _ _ (by omega) (by omega) (by omega) (by omega)))))
        refine wpQuiet_nil ?_
        intro _ hw'
        obtain ⟨g2, hw''⟩ := hw'
        subst hw''
        have hB2 := below_then hB g2.b
        have hd0 : g2.val.cell? ⟨w.heap.size + 1 + 1, 0, none⟩ = some (.int .i64 0) := (hB2.cell (p := ⟨w.heap.size + 1 + 1, 0, none⟩) (by simp)).trans (by go_simp)
        have hd1 : g2.val.cell? ⟨w.heap.size + 1 + 1, 1, none⟩ = some (.int .i64 0) := (hB2.cell (p := ⟨w.heap.size + 1 + 1, 1, none⟩) (by simp)).trans (by go_simp)
        have hgs2 := g2.b.size
        have hx4 : w.heap.size + 1 + 1 < g2.val.heap.size := by omega
        obtain ⟨hc4, hf4⟩ := bcell g2.b
        go_wp2
        refine bodyPost_ret (v := .tuple #[rtV (ratioI (waysI x s) (chooseI (allI x) (allI s))), .int .i64 0]) ?_ rfl ⟨rfl, ?_⟩
        · simp [results, Try.results71, go_sem, hd0, hd1]
        · exact (((below_then (below_alloc _ _) (below_then (below_alloc _ _) (below_then (below_alloc _ _) hB2))).setCell (by simp; omega) _).setCell (by simp; omega) _)
    · rw [show chanceR x s = (⟨0, 0⟩, 1) by simp [chanceR, h2]]
      have hq := Lib.hid h1
      have hr := Lib.hid h2
      clear h1 h2
      go_enter Try.func71, Try.ntmps71
      go_wp2_with fail
      refine (whole3_b _ hq.out).mono ?_
      rintro e w1 ⟨rfl, hb1⟩
      obtain ⟨hc1, hf1⟩ := bcell hb1
      have hs1 := hb1.size
      simp only [World.size_alloc] at hs1
      have hz1 : w.heap.size < w1.heap.size := by omega
      have hy1 : w.heap.size + 1 < w1.heap.size := by omega
      have hx1 : w.heap.size + 1 + 1 < w1.heap.size := by omega
      go_wp2_with fail
      refine (sorted3_b _ hr.out).mono ?_
      rintro e w2 ⟨rfl, hb2⟩
      obtain ⟨hc2, hf2⟩ := bcell hb2
      have hs2 := hb2.size
      have hx2 : w.heap.size + 1 + 1 < w2.heap.size := by omega
      have hB := below_then hb1 hb2
      have hd0 : w2.cell? ⟨w.heap.size + 1 + 1, 0, none⟩ = some (.int .i64 0) := (hB.cell (p := ⟨w.heap.size + 1 + 1, 0, none⟩) (by simp)).trans (by go_simp)
      have hd1 : w2.cell? ⟨w.heap.size + 1 + 1, 1, none⟩ = some (.int .i64 0) := (hB.cell (p := ⟨w.heap.size + 1 + 1, 1, none⟩) (by simp)).trans (by go_simp)
      go_wp2
      refine bodyPost_ret (v := .tuple #[rtV ⟨0, 0⟩, .int .i64 1]) ?_ rfl ⟨rfl, ?_⟩
      · simp [results, Try.results71, go_sem, hd0, hd1]
      · exact (((below_then (below_alloc _ _) (below_then (below_alloc _ _) (below_then (below_alloc _ _) hB))).setCell (by simp; omega) _).setCell (by simp; omega) _)
  · rw [show chanceR x s = (⟨0, 0⟩, 1) by simp [chanceR, h1]]
    have hq := Lib.hid h1
    clear h1
    go_enter Try.func71, Try.ntmps71
    go_wp2_with fail
    refine (whole3_b _ hq.out).mono ?_
    rintro e w1 ⟨rfl, hb1⟩
    obtain ⟨hc1, hf1⟩ := bcell hb1
    have hs1 := hb1.size
    simp only [World.size_alloc] at hs1
    have hz1 : w.heap.size < w1.heap.size := by omega
    have hy1 : w.heap.size + 1 < w1.heap.size := by omega
    have hx1 : w.heap.size + 1 + 1 < w1.heap.size := by omega
    have hB := hb1
    have hd0 : w1.cell? ⟨w.heap.size + 1 + 1, 0, none⟩ = some (.int .i64 0) := (hB.cell (p := ⟨w.heap.size + 1 + 1, 0, none⟩) (by simp)).trans (by go_simp)
    have hd1 : w1.cell? ⟨w.heap.size + 1 + 1, 1, none⟩ = some (.int .i64 0) := (hB.cell (p := ⟨w.heap.size + 1 + 1, 1, none⟩) (by simp)).trans (by go_simp)
    go_wp2
    refine bodyPost_ret (v := .tuple #[rtV ⟨0, 0⟩, .int .i64 1]) ?_ rfl ⟨rfl, ?_⟩
    · simp [results, Try.results71, go_sem, hd0, hd1]
    · exact (((below_then (below_alloc _ _) (below_then (below_alloc _ _) (below_then (below_alloc _ _) hB))).setCell (by simp; omega) _).setCell (by simp; omega) _)
end Go.Proofs.Ytaaeipjnhjgjdaa
/- The possible wholes of a batch, by the reference. -/
namespace Go.Proofs.Ytaaeipjnhjgjdaa
open Go.RowKit

theorem Try.infoK3 : (Try.prog.info? 23).map (fun i => (i.zero, i.size, i.bytes)) = some (some (.agg #[.int .i64 0, .int .i64 0, .int .i64 0]), 3, 24) := by kernel_rfl
def k3C (k : K3) : List Value := [.int .i64 k.a, .int .i64 k.b, .int .i64 k.c]
theorem k3C_len (k : K3) : (k3C k).length = 3 := rfl
@[reducible] def K3s (w : World) (B : Nat) (v : Value) (l : List K3) : Prop := Sl k3C 3 w B v l
/-- The wholes ahead of the whole i, k. -/
def preW (N : Nat) (b : Bt) (i k : Nat) : List K3 := (triples N i ++ rowW N i k).filter (okW b)
theorem rowW_snoc (n i k : Nat) : rowW n i (k + 1) = rowW n i k ++ [⟨(i : Int), (k : Int), (n : Int) - i - k⟩] := by
  unfold rowW; rw [List.range_succ, List.map_append]; rfl
theorem triples_snoc (n i : Nat) : triples n (i + 1) = triples n i ++ rowW n i (n + 1 - i) := by
  unfold triples; rw [List.range_succ, List.flatMap_append]; simp
theorem preW_yes {N : Nat} {b : Bt} {i k : Nat} (h : okW b ⟨(i : Int), (k : Int), (N : Int) - i - k⟩ = true) : preW N b i (k + 1) = preW N b i k ++ [⟨(i : Int), (k : Int), (N : Int) - i - k⟩] := by
  unfold preW; rw [rowW_snoc, ← List.append_assoc, List.filter_append]; simp [h]
theorem preW_no {N : Nat} {b : Bt} {i k : Nat} (h : okW b ⟨(i : Int), (k : Int), (N : Int) - i - k⟩ = false) : preW N b i (k + 1) = preW N b i k := by
  unfold preW; rw [rowW_snoc, ← List.append_assoc, List.filter_append]; simp [h]
theorem preW_next (N : Nat) (b : Bt) (i : Nat) : preW N b i (N + 1 - i) = preW N b (i + 1) 0 := by
  unfold preW; rw [triples_snoc]; simp [rowW]
theorem triples_len {n : Nat} (hn : n ≤ 50) : ∀ i, (triples n i).length ≤ 51 * i
  | 0 => by simp [triples]
  | i + 1 => by
    rw [triples_snoc, List.length_append]
    have := triples_len hn i
    have : (rowW n i (n + 1 - i)).length = n + 1 - i := by simp [rowW]
    omega
theorem preW_len {N : Nat} (b : Bt) (hn : N ≤ 50) {i k : Nat} (hi : i ≤ 51) (hk : k ≤ 51) : (preW N b i k).length ≤ 2652 := by
  unfold preW
  refine Nat.le_trans (List.length_filter_le _ _) ?_
  rw [List.length_append]
  have := triples_len (n := N) (by omega) i
  have : (rowW N i k).length = k := by simp [rowW]
  omega
def okAt (b : Bt) (x : K3) (j : Nat) : Bool := decide (b.s.get j ≤ x.get j) && inI (x.get j) (b.known j).lo (b.known j).hi
def okP (b : Bt) (x : K3) : Nat → Bool
  | 0 => true
  | j + 1 => okP b x j && okAt b x j
theorem okP_3 (b : Bt) (x : K3) : okP b x 3 = okW b x := by
  simp [okP, okAt, okW, K3.get, Bt.known]
def btC (b : Bt) : Array Value := #[.int .i64 b.n, .int .i64 b.s.a, .int .i64 b.s.b, .int .i64 b.s.c, .int .i64 b.k0.lo, .int .i64 b.k0.hi, .int .i64 b.k1.lo, .int .i64 b.k1.hi, .int .i64 b.k2.lo, .int .i64 b.k2.hi]
theorem bt_cells {b : Bt} {w wr : World} {B g : Nat} {t : TypeId} (hg : g = w.heap.size) (hB : g < B) (hb : Below B (w.alloc (.cells (btC b) t)) wr) : wr.cell? ⟨g, 0, none⟩ = some (.int .i64 b.n) ∧
    ∀ j, j < 3 → wr.cell? ⟨g, 1 + j, none⟩ = some (.int .i64 (b.s.get j)) ∧ wr.cell? ⟨g, 4 + j * 2, none⟩ = some (.int .i64 (b.known j).lo) ∧ wr.cell? ⟨g, 4 + j * 2 + 1, none⟩ = some (.int .i64 (b.known j).hi) := by
  have key : ∀ o, wr.cell? ⟨g, o, none⟩ = (btC b)[o]? := fun o => (hb.cell (p := ⟨g, o, none⟩) hB).trans (by subst hg; exact World.cell?_alloc_mark w (btC b) t (0, 0) o)
  refine ⟨key 0, fun j hj => ?_⟩
  rw [key, key, key]
  have : j = 0 ∨ j = 1 ∨ j = 2 := by omega
  rcases this with rfl | rfl | rfl <;> exact ⟨rfl, rfl, rfl⟩

set_option maxRecDepth 100000 in
theorem wholes3_o (b : Bt) (w : World) (h0 : 0 ≤ b.n) (h1 : b.n ≤ 50) :
    Calls Try.prog 81 #[btV b] w fun e w' => ∃ v, e = .returned v ∧ w'.ownsRow w.heap.size 23 3 v (wholesL b).length ((wholesL b).flatMap k3C) ∧ (wholesL b).length ≤ 2652 ∧ Below w.heap.size w w' := by
  obtain ⟨i0, hi, hz0, hz1, hz2⟩ := info_parts Try.infoK3
  have HI := Lib.hid hi
  have HI0 := Lib.hid hz0
  have HI1 := Lib.hid hz1
  have HI2 := Lib.hid hz2
  clear hi hz0 hz1 hz2
  obtain ⟨N, hN⟩ := Int.eq_ofNat_of_zero_le h0
  have hNt : b.n.toNat = N := by omega
  have HT := Lib.hid hNt
  have HN := Lib.hid hN
  have hN50 : N ≤ 50 := by omega
  have HBt : Hid (∀ {wr : World}, Below (w.heap.size + 1) (w.alloc (.cells (btC b) 34)) wr → wr.cell? ⟨w.heap.size, 0, none⟩ = some (.int .i64 b.n) ∧
    ∀ j, j < 3 → wr.cell? ⟨w.heap.size, 1 + j, none⟩ = some (.int .i64 (b.s.get j)) ∧ wr.cell? ⟨w.heap.size, 4 + j * 2, none⟩ = some (.int .i64 (b.known j).lo) ∧ wr.cell? ⟨w.heap.size, 4 + j * 2 + 1, none⟩ = some (.int .i64 (b.known j).hi)) := by
    intro wr hb
    exact bt_cells (b := b) rfl (by omega) hb
  have hNb : (N : Int) ≤ b.n ∧ b.n ≤ N := by omega
  obtain ⟨hNb1, hNb2⟩ := hNb
  unfold btV
  clear hNt hN
  go_enter Try.func81, Try.ntmps81
  go_wp2
  go_loopw [3, 4] (fun v i wr => ∃ j : Nat, j ≤ N + 1 ∧ i = .int .i64 j ∧ wr.ownsRow (w.heap.size + 1) 23 3 v (preW N b j 0).length ((preW N b j 0).flatMap k3C) ∧ Below (w.heap.size + 1) (w.alloc (.cells (btC b) 34)) wr) (fun _ i _ => N + 1 - (intOf i).toNat)
  case atStart => exact ⟨0, by omega, rfl, by simpa [preW, triples, rowW] using World.ownsRow_nil _ _ _ _, Below.refl _ _⟩
  case round =>
    obtain ⟨i, hi, rfl, hown, hb⟩ := hrel
    obtain ⟨c0, _⟩ := HBt.out hb
    by_cases hlt : i ≤ N
    · have hd1 : decide ((i : Int) ≤ b.n) = true := decide_eq_true (by omega)
      obtain ⟨wo, rfl⟩ : ∃ wo : World, wo = wr := ⟨_, rfl⟩
      go_wp2
      go_loopw [3, 5] (fun v k wr => ∃ q : Nat, q ≤ N + 1 - i ∧ k = .int .i64 q ∧ wr.ownsRow (w.heap.size + 1) 23 3 v (preW N b i q).length ((preW N b i q).flatMap k3C) ∧ Below (w.heap.size + 1) (w.alloc (.cells (btC b) 34)) wr) (fun _ k _ => N + 1 - (intOf k).toNat)
      case atStart => exact ⟨0, by omega, rfl, hown, hb⟩
      case round =>
        clear hown hb c0
        obtain ⟨q, hq, rfl, hown, hb⟩ := hrel
        obtain ⟨c0, cj⟩ := HBt.out hb
        have hCJ := Lib.hid cj
        clear cj
        by_cases hlt2 : q ≤ N - i
        · have hd2 : decide ((i : Int) + q ≤ b.n) = true := decide_eq_true (by omega)
          go_wp2
          obtain ⟨wq, rfl⟩ : ∃ wq : World, wq = wr := ⟨_, rfl⟩
          have hqs := hb.size
          simp only [World.size_alloc] at hqs
          obtain ⟨x, hx⟩ : ∃ x : K3, x = ⟨(i : Int), (q : Int), b.n - i - q⟩ := ⟨_, rfl⟩
          have HX : Hid (∀ {wr : World}, Below (wq.heap.size + 1) (wq.alloc (.cells #[.int .i64 i, .int .i64 q, .int .i64 (b.n - i - q)] 23)) wr → ∀ j, j < 3 → wr.cell? ⟨wq.heap.size, j, none⟩ = some (.int .i64 (x.get j))) := by
            intro wr hb j hj
            rw [hb.cell (p := ⟨wq.heap.size, j, none⟩) (by simp), World.cell?_alloc_mark wq _ _ (0, 0) j, hx]
            have : j = 0 ∨ j = 1 ∨ j = 2 := by omega
            rcases this with rfl | rfl | rfl <;> rfl
          have HXe := Lib.hid hx
          clear hx
          go_loopw [7, 8] (fun o s wr => ∃ j : Nat, j ≤ 3 ∧ s = .int .i64 j ∧ o = .bool (okP b x j) ∧ Below (wq.heap.size + 1) (wq.alloc (.cells #[.int .i64 i, .int .i64 q, .int .i64 (b.n - i - q)] 23)) wr) (fun _ s _ => 3 - (intOf s).toNat)
          case atStart => exact ⟨0, by omega, rfl, rfl, Below.refl _ _⟩
          case round =>
            obtain ⟨j, hj, rfl, rfl, hbx⟩ := hrel
            have hbn : Below (w.heap.size + 1) (w.alloc (.cells (btC b) 34)) wr := (hb.alloc hqs _).trans (hbx.mono (by omega))
            by_cases hj3 : j < 3
            · have hxs := hbx.size
              simp only [World.size_alloc] at hxs
              obtain ⟨c1, c2, c3⟩ := (HBt.out hbn).2 j hj3
              have c4 := HX.out hbx j hj3
              have hz1 : w.heap.size < wr.heap.size := by omega
              have hz2 : wq.heap.size < wr.heap.size := by omega
              clear c0
              rcases Bool.eq_false_or_eq_true (okP b x j) with ho | ho
              · by_cases hs : b.s.get j ≤ x.get j
                · rw [ho]
                  have hn : Hid (okP b x (j + 1) = inI (x.get j) (b.known j).lo (b.known j).hi) := by show okP b x (j + 1) = _; simp [okP, okAt, ho, hs]
                  clear ho
                  go_wp2
                  refine wp_region_grown (by kernel_rfl) (by kernel_rfl) fun hcg => ?_
                  repeat (go_big_quiet_step (first | (go_at_call 88; exact Calls.grown (in3_b _ rfl))))
                  refine wpQuiet_nil ?_
                  intro _ hw'
                  obtain ⟨g, hw''⟩ := hw'
                  subst hw''
                  have hB := hbx.trans (g.b.mono (by omega))
                  go_wp2
                  go_roundw
                  case rel => exact ⟨j + 1, by omega, by go_num, by rw [hn.out], hB⟩
                  case measure => simp [intOf]; omega
                · rw [ho]
                  have hn : Hid (okP b x (j + 1) = false) := by show okP b x (j + 1) = _; simp [okP, okAt, ho, hs]
                  have hd : decide (b.s.get j ≤ x.get j) = false := decide_eq_false hs
                  clear ho
                  go_wp2
                  refine wp_region_grown (by kernel_rfl) (by kernel_rfl) fun hcg => ?_
                  repeat (go_big_quiet_step (fail))
                  refine wpQuiet_nil ?_
                  intro _ hw'
                  obtain ⟨g, hw''⟩ := hw'
                  subst hw''
                  have hB := hbx.trans (g.b.mono (by omega))
                  go_wp2
                  go_roundw
                  case rel => exact ⟨j + 1, by omega, by go_num, by rw [hn.out], hB⟩
                  case measure => simp [intOf]; omega
              · rw [ho]
                have hn : Hid (okP b x (j + 1) = false) := by show okP b x (j + 1) = _; simp [okP, ho]
                clear ho
                go_wp2
                refine wp_region_grown (by kernel_rfl) (by kernel_rfl) fun hcg => ?_
                repeat (go_big_quiet_step (fail))
                refine wpQuiet_nil ?_
                intro _ hw'
                obtain ⟨g, hw''⟩ := hw'
                subst hw''
                have hB := hbx.trans (g.b.mono (by omega))
                go_wp2
                go_roundw
                case rel => exact ⟨j + 1, by omega, by go_num, by rw [hn.out], hB⟩
                case measure => simp [intOf]; omega
            · obtain rfl : j = 3 := by omega
              rw [okP_3]
              rcases Bool.eq_false_or_eq_true (okW b x) with ho | ho
              · have c1 := HX.out hbx 0 (by omega)
                have c2 := HX.out hbx 1 (by omega)
                have c3 := HX.out hbx 2 (by omega)
                rw [HXe.out] at c1 c2 c3
                simp only [K3.get] at c1 c2 c3
                have hown2 := own_later hown (below_then (below_alloc wq _) (hbx.mono (by simp)))
                have hlen := preW_len b hN50 (i := i) (k := q) (by omega) (by omega)
                have hne : Hid (preW N b i (q + 1) = preW N b i q ++ [⟨(i : Int), (q : Int), b.n - i - q⟩]) := by
                  show preW N b i (q + 1) = _
                  rw [HN.out]
                  refine preW_yes ?_
                  rw [← HN.out, ← HXe.out]; exact ho
                have hO := Lib.hid ho
                clear ho c0
                have hxs := hbx.size
                simp only [World.size_alloc] at hxs
                rw [hO.out]
                go_wp2_with (at_builtin; refine wpList_append_own _ rfl _ _ 35 rfl (w.heap.size + 1) 23 i0 (.agg #[.int .i64 0, .int .i64 0, .int .i64 0]) 3 24 Try.underlying35 HI.out HI0.out HI1.out HI2.out rfl (by decide) _ _ _ rfl (hown2.alloc _) ⟨wr.heap.size, 0, none⟩ 1 1 [.int .i64 i, .int .i64 q, .int .i64 (b.n - i - q)] rfl rfl ?c1 ?c2 ?c3 ?c4 ?c5 ?_)
                case c1 => have := cells_new wr [.int .i64 i, .int .i64 q, .int .i64 (b.n - i - q)] 23; simpa using this
                case c2 => intro u hu; simp at hu; rcases hu with rfl | rfl | rfl <;> rfl
                case c3 => unfold maxLen; omega
                case c4 => omega
                case c5 => simp; omega
                intro v' w2 hown' hgrow _
                have hB2 : Below (w.heap.size + 1) (w.alloc (.cells (btC b) 34)) w2 := (hbn.alloc (by omega) _).grown hgrow (by simp; omega) fun k hk => (hown2.lt k hk).1
                clear hgrow
                go_wp2
                go_roundw
                case rel => exact ⟨q + 1, by omega, by go_num, by rw [hne.out, List.length_append, List.flatMap_append]; simpa [k3C] using hown', hB2⟩
                case measure => simp [intOf]; omega
              · have hne : Hid (preW N b i (q + 1) = preW N b i q) := by
                  show preW N b i (q + 1) = _
                  refine preW_no ?_
                  rw [← HN.out, ← HXe.out]; exact ho
                have hown2 := own_later hown (below_then (below_alloc wq _) (hbx.mono (by simp)))
                have hO := Lib.hid ho
                clear ho
                rw [hO.out]
                go_wp2
                go_roundw
                case rel => exact ⟨q + 1, by omega, by go_num, by rw [hne.out]; exact hown2, hbn⟩
                case measure => simp [intOf]; omega
        · obtain rfl : q = N + 1 - i := by omega
          go_wp2
          go_roundw
          case rel => exact ⟨i + 1, by omega, by go_num, by rw [← preW_next]; exact hown, hb⟩
          case measure => simp [intOf]; omega
    · obtain rfl : i = N + 1 := by omega
      go_wp2
      go_ret
      refine ⟨_, rfl, Joins.ownsRow_le (base := w.heap.size + 1) ?_ (by omega), ?_, below_then (below_alloc _ _) (hb.mono (by simp))⟩
      · rw [show wholesL b = preW N b (N + 1) 0 by unfold wholesL preW; rw [HT.out]; simp [rowW]]
        exact hown
      · have := preW_len b hN50 (i := N + 1) (k := 0) (by omega) (by omega)
        rw [show wholesL b = preW N b (N + 1) 0 by unfold wholesL preW; rw [HT.out]; simp [rowW]]
        omega
theorem wholes3_c (b : Bt) (w : World) (h0 : 0 ≤ b.n) (h1 : b.n ≤ 50) :
    Calls Try.prog 81 #[btV b] w fun e w' => ∃ v, e = .returned v ∧ K3s w' w'.heap.size v (wholesL b) ∧ Below w.heap.size w w' :=
  (wholes3_o b w h0 h1).mono fun _ _ ⟨v, e, ho, hl, hb⟩ => ⟨v, e, Sl.of_own k3C_len ho (by omega), hb⟩
end Go.Proofs.Ytaaeipjnhjgjdaa
/- The reference's check of a batch, and of a sort. -/
namespace Go.Proofs.Ytaaeipjnhjgjdaa
open Go.RowKit

def spanAt (b : Bt) (j : Nat) : Bool := decide (0 ≤ (b.known j).lo) && decide ((b.known j).lo ≤ (b.known j).hi) && decide ((b.known j).hi ≤ b.n)
theorem spansB_iff (b : Bt) : spansB b = true ↔ ∀ j, j < 3 → spanAt b j = true := by
  have e : spansB b = (spanAt b 0 && spanAt b 1 && spanAt b 2) := rfl
  rw [e]
  simp only [Bool.and_eq_true]
  constructor
  · rintro ⟨⟨h0, h1⟩, h2⟩ j hj
    have : j = 0 ∨ j = 1 ∨ j = 2 := by omega
    rcases this with rfl | rfl | rfl <;> assumption
  · intro h; exact ⟨⟨h 0 (by omega), h 1 (by omega)⟩, h 2 (by omega)⟩
theorem check_wrong {b : Bt} (h : rightB b = false) : checkB b = 1 := by simp [checkB, h]
theorem rightB_P {b : Bt} (h : rightB b = true) : (1 ≤ b.n ∧ b.n ≤ 50) ∧ sortedB b.s = true ∧ allI b.s ≤ b.n ∧ spansB b = true := by
  simp only [rightB, inI, Bool.and_eq_true, decide_eq_true_eq] at h
  exact ⟨h.1.1.1, h.1.1.2, h.1.2, h.2⟩

set_option maxRecDepth 100000 in
theorem Check3_c (b : Bt) (w : World) :
    Calls Try.prog 31 #[btV b] w fun e w' => e = .returned (.int .i64 (checkB b)) ∧ Below w.heap.size w w' := by
  unfold btV
  rcases Bool.eq_false_or_eq_true (inI b.n 1 50) with h1 | h1
  · rcases Bool.eq_false_or_eq_true (sortedB b.s) with h2 | h2
    · by_cases h3 : b.n < allI b.s
      · have hr : Hid (rightB b = false) := by show rightB b = false; simp [rightB]; omega
        have H1 := Lib.hid h1
        have H2 := Lib.hid h2
        clear h1 h2
        go_enter Try.func31, Try.ntmps31
        go_wp2
        refine wp_region_grown (by kernel_rfl) (by kernel_rfl) fun hcg => ?_
        repeat (go_big_quiet_step (first | (go_at_call 88; exact Calls.grown (in3_b _ H1.out)) | (go_at_call 89; exact Calls.grown (sorted3_b _ H2.out)) | (go_at_call 90; exact Calls.grown (all3_c _ _ H2.out))))
        refine wpQuiet_nil ?_
        intro _ hw'
        obtain ⟨g, hw''⟩ := hw'
        subst hw''
        go_wp2
        go_ret
        exact ⟨ret_int (by rw [show checkB b = 1 from check_wrong hr.out]), below_then (below_alloc _ _) g.b⟩
      · have H1 := Lib.hid h1
        have H2 := Lib.hid h2
        have b1 : 1 ≤ b.n ∧ b.n ≤ 50 := by simpa [inI] using h1
        have h3' : allI b.s ≤ b.n := by omega
        have HBt : Hid (∀ {wr : World}, Below (w.heap.size + 1) (w.alloc (.cells (btC b) 34)) wr → wr.cell? ⟨w.heap.size, 0, none⟩ = some (.int .i64 b.n) ∧
          ∀ j, j < 3 → wr.cell? ⟨w.heap.size, 1 + j, none⟩ = some (.int .i64 (b.s.get j)) ∧ wr.cell? ⟨w.heap.size, 4 + j * 2, none⟩ = some (.int .i64 (b.known j).lo) ∧ wr.cell? ⟨w.heap.size, 4 + j * 2 + 1, none⟩ = some (.int .i64 (b.known j).hi)) := by
          intro wr hb
          exact bt_cells (b := b) rfl (by omega) hb
        clear h1 h2
        go_enter Try.func31, Try.ntmps31
        go_wp2
        refine wp_region_grown (by kernel_rfl) (by kernel_rfl) fun hcg => ?_
        repeat (go_big_quiet_step (first | (go_at_call 88; exact Calls.grown (in3_b _ H1.out)) | (go_at_call 89; exact Calls.grown (sorted3_b _ H2.out)) | (go_at_call 90; exact Calls.grown (all3_c _ _ H2.out))))
        refine wpQuiet_nil ?_
        intro _ hw'
        obtain ⟨g, hw''⟩ := hw'
        subst hw''
        have hB0 : Below (w.heap.size + 1) (w.alloc (.cells (btC b) 34)) g.val := by have := g.b; simp only [World.size_alloc] at this; exact this
        clear hcg
        go_wp2
        go_loopw [3] (fun s wr => ∃ j : Nat, j ≤ 3 ∧ s = .int .i64 j ∧ Hid (∀ i, i < j → spanAt b i = true) ∧ Below (w.heap.size + 1) (w.alloc (.cells (btC b) 34)) wr) (fun s _ => 3 - (intOf s).toNat)
        case atStart => exact ⟨0, by omega, rfl, fun i hi => absurd hi (by omega), hB0⟩
        case round =>
          obtain ⟨j, hj, rfl, hsp, hb⟩ := hrel
          have hbs := hb.size
          simp only [World.size_alloc] at hbs
          have hz : w.heap.size < wr.heap.size := by omega
          by_cases hj3 : j < 3
          · obtain ⟨c0, cj⟩ := HBt.out hb
            obtain ⟨_, c2, c3⟩ := cj j hj3
            clear cj
            have bad : spanAt b j = false → checkB b = 1 := fun h => check_wrong (by
              cases hr : rightB b with
              | false => rfl
              | true => have := (spansB_iff b).1 (rightB_P hr).2.2.2 j hj3; rw [h] at this; cases this)
            have hbad := Lib.hid bad
            clear bad
            by_cases a1 : (b.known j).lo < 0
            · have d1 : decide ((b.known j).lo < 0) = true := decide_eq_true a1
              have hs : Hid (spanAt b j = false) := by show spanAt b j = false; simp [spanAt]; omega
              go_wp2
              refine wp_region_grown (by kernel_rfl) (by kernel_rfl) fun hcg => ?_
              repeat (go_big_quiet_step (fail))
              refine wpQuiet_nil ?_
              intro _ hw'
              obtain ⟨g, hw''⟩ := hw'
              subst hw''
              go_wp2
              go_ret
              exact ⟨ret_int (by rw [hbad.out hs.out]), below_then (below_alloc _ _) (below_then (hb.mono (by simp)) g.b)⟩
            · have d1 : decide ((b.known j).lo < 0) = false := decide_eq_false a1
              by_cases a2 : (b.known j).hi < (b.known j).lo
              · have d2 : decide ((b.known j).hi < (b.known j).lo) = true := decide_eq_true a2
                have hs : Hid (spanAt b j = false) := by show spanAt b j = false; simp [spanAt]; omega
                go_wp2
                refine wp_region_grown (by kernel_rfl) (by kernel_rfl) fun hcg => ?_
                repeat (go_big_quiet_step (fail))
                refine wpQuiet_nil ?_
                intro _ hw'
                obtain ⟨g, hw''⟩ := hw'
                subst hw''
                go_wp2
                go_ret
                exact ⟨ret_int (by rw [hbad.out hs.out]), below_then (below_alloc _ _) (below_then (hb.mono (by simp)) g.b)⟩
              · have d2 : decide ((b.known j).hi < (b.known j).lo) = false := decide_eq_false a2
                by_cases a3 : b.n < (b.known j).hi
                · have d3 : decide (b.n < (b.known j).hi) = true := decide_eq_true a3
                  have hs : Hid (spanAt b j = false) := by show spanAt b j = false; simp [spanAt]; omega
                  go_wp2
                  refine wp_region_grown (by kernel_rfl) (by kernel_rfl) fun hcg => ?_
                  repeat (go_big_quiet_step (fail))
                  refine wpQuiet_nil ?_
                  intro _ hw'
                  obtain ⟨g, hw''⟩ := hw'
                  subst hw''
                  go_wp2
                  go_ret
                  exact ⟨ret_int (by rw [hbad.out hs.out]), below_then (below_alloc _ _) (below_then (hb.mono (by simp)) g.b)⟩
                · have d3 : decide (b.n < (b.known j).hi) = false := decide_eq_false a3
                  have hs : Hid (spanAt b j = true) := by show spanAt b j = true; simp [spanAt]; omega
                  go_wp2
                  refine wp_region_grown (by kernel_rfl) (by kernel_rfl) fun hcg => ?_
                  repeat (go_big_quiet_step (fail))
                  refine wpQuiet_nil ?_
                  intro _ hw'
                  obtain ⟨g, hw''⟩ := hw'
                  subst hw''
                  have hB := hb.trans (g.b.mono (by omega))
                  go_wp2
                  go_roundw
                  case rel => exact ⟨j + 1, by omega, by go_num, fun i hi => if e : i = j then e ▸ hs.out else hsp.out i (by omega), hB⟩
                  case measure => simp [intOf]; omega
          · obtain rfl : j = 3 := by omega
            have hright : rightB b = true := by simp [rightB, H1.out, H2.out, h3', (spansB_iff b).2 hsp.out]
            have hR := Lib.hid hright
            clear hright
            have hbu := hb
            unfold btC at hbu
            obtain ⟨hc, hf⟩ := bcellB hbu
            go_wp2_with fail
            refine (wholes3_c b _ (by omega) b1.2).mono ?_
            rintro e w2 ⟨v, rfl, hv, hb2⟩
            obtain ⟨A, cap, rfl, hcap, hmax, _⟩ := hv
            have hBz := below_then (below_alloc w (.cells (btC b) 34)) (below_then (hb.mono (by simp)) hb2)
            by_cases hl : (wholesL b).length = 0
            · have hl' := Lib.hid hl
              have hd : (((wholesL b).length : Int) == 0) = true := by rw [hl]; rfl
              clear hl
              go_wp2_with fail
              go_ret
              exact ⟨ret_int (by rw [checkB, hR.out]; simp [List.length_eq_zero_iff.1 hl'.out]), hBz⟩
            · have hd : (((wholesL b).length : Int) == 0) = false := by rw [beq_eq_false_iff_ne]; omega
              have hl' := Lib.hid hl
              clear hl
              go_wp2_with fail
              go_ret
              exact ⟨ret_int (by rw [checkB, hR.out]; have : wholesL b ≠ [] := fun e => hl'.out (by rw [e]; rfl); simp [this]), hBz⟩
    · have hr : Hid (rightB b = false) := by show rightB b = false; simp [rightB, h2]
      have H1 := Lib.hid h1
      have H2 := Lib.hid h2
      clear h1 h2
      go_enter Try.func31, Try.ntmps31
      go_wp2
      refine wp_region_grown (by kernel_rfl) (by kernel_rfl) fun hcg => ?_
      repeat (go_big_quiet_step (first | (go_at_call 88; exact Calls.grown (in3_b _ H1.out)) | (go_at_call 89; exact Calls.grown (sorted3_b _ H2.out)) | (go_at_call 90; exact Calls.grown (all3_c _ _ H2.out))))
      refine wpQuiet_nil ?_
      intro _ hw'
      obtain ⟨g, hw''⟩ := hw'
      subst hw''
      go_wp2
      go_ret
      exact ⟨ret_int (by rw [show checkB b = 1 from check_wrong hr.out]), below_then (below_alloc _ _) g.b⟩
  · have hr : Hid (rightB b = false) := by show rightB b = false; simp [rightB, h1]
    have H1 := Lib.hid h1
    clear h1
    go_enter Try.func31, Try.ntmps31
    go_wp2
    refine wp_region_grown (by kernel_rfl) (by kernel_rfl) fun hcg => ?_
    repeat (go_big_quiet_step ((go_at_call 88; exact Calls.grown (in3_b _ H1.out))))
    refine wpQuiet_nil ?_
    intro _ hw'
    obtain ⟨g, hw''⟩ := hw'
    subst hw''
    go_wp2
    go_ret
    exact ⟨ret_int (by rw [show checkB b = 1 from check_wrong hr.out]), below_then (below_alloc _ _) g.b⟩
end Go.Proofs.Ytaaeipjnhjgjdaa
/- The weights of the numbers of a sort, by the reference. -/
namespace Go.Proofs.Ytaaeipjnhjgjdaa
open Go.RowKit

theorem flat_at3 {l : List K3} {j : Nat} {x : K3} (hx : l[j]? = some x) (s : Nat) (hs : s < 3) : (l.flatMap k3C)[j * 3 + s]? = some (.int .i64 (x.get s)) := by
  refine flat_at k3C_len l j x s _ hx ?_
  have : s = 0 ∨ s = 1 ∨ s = 2 := by omega
  rcases this with rfl | rfl | rfl <;> rfl
theorem whole_of {b : Bt} (h0 : 0 ≤ b.n) (h1 : b.n ≤ 50) {j : Nat} {x : K3} (hx : (wholesL b)[j]? = some x) : wholeP x ∧ ∀ s : Nat, 0 ≤ x.get s ∧ x.get s ≤ b.n := by
  have := (mem_wholes h0).1 (List.mem_of_getElem? hx)
  refine ⟨by unfold wholeP; omega, fun s => ?_⟩
  unfold K3.get
  split
  · omega
  · split <;> omega

set_option maxRecDepth 100000 in
theorem weights3_c (b : Bt) (s : Nat) (w : World) (h0 : 0 ≤ b.n) (h1 : b.n ≤ 50) (hs : s < 3) (hso : sortedB b.s = true) :
    Calls Try.prog 94 #[btV b, .int .i64 s] w fun e w' => ∃ v, e = .returned v ∧ w'.ownsRow w.heap.size 3 1 v (b.n.toNat + 1) ((weightsL b s).map (Value.int .i64)) ∧ Below w.heap.size w w' := by
  obtain ⟨i0, hi, hz0, hz1, hz2⟩ := info_parts Try.info3i
  have HI := Lib.hid hi
  have HI0 := Lib.hid hz0
  have HI1 := Lib.hid hz1
  have HI2 := Lib.hid hz2
  clear hi hz0 hz1 hz2
  obtain ⟨N, hN⟩ := Int.eq_ofNat_of_zero_le h0
  have hNt : b.n.toNat = N := by omega
  have HT := Lib.hid hNt
  have HN := Lib.hid hN
  have hN50 : N ≤ 50 := by omega
  have hsn : 0 ≤ b.s.a ∧ 0 ≤ b.s.b ∧ 0 ≤ b.s.c := by simp only [sortedB, Bool.and_eq_true, decide_eq_true_eq] at hso; omega
  have hbd := Lib.hid (ways_bound b h0 h1 hsn.1 hsn.2.1 hsn.2.2)
  rw [hNt]
  have hNb : (N : Int) ≤ b.n ∧ b.n ≤ N := by omega
  obtain ⟨hNb1, hNb2⟩ := hNb
  obtain ⟨w1, hmk, hown1, hg1⟩ := run_make_full (P := Try.prog) (w.alloc (.cells (btC b) 34)) (w.heap.size + 1) 46 3 i0 (.int .i64 0) 1 Try.underlying46 HI.out HI0.out HI1.out .i64 .i64 (N + 1) (by rw [HI2.out]; omega) (by unfold maxLen; omega) (by simp)
  simp only [Int.natCast_add, Int.natCast_one, Nat.mul_one, World.size_alloc] at hmk hown1
  rw [show (Value.int .i64 0).cells = #[.int .i64 0] from rfl, toList_madeCells_one] at hown1
  rw [← hN] at hmk
  have hB1 : Below (w.heap.size + 1) (w.alloc (.cells (btC b) 34)) w1 := (Below.refl _ _).grown hg1 (by simp) (fun k e => by cases e)
  have hown1' : w1.ownsRow (w.heap.size + 1) 3 1 (.slice (some ⟨w.heap.size + 1, 0, none⟩) (N + 1) (N + 1)) (N + 1) ((wsP b s 0).map (Value.int .i64)) := by
    rw [wsP_zero, HT.out, List.map_replicate]; exact hown1
  clear hown1 hg1 hN hNt
  have hbu := hB1
  unfold btC at hbu hmk
  obtain ⟨hc, hf⟩ := bcellB hbu
  unfold btV
  go_enter Try.func94, Try.ntmps94
  go_wp2_with fail
  refine (wholes3_o b _ h0 h1).mono ?_
  rintro e w2 ⟨v, rfl, hv, hlen, hb2⟩
  have hs1 := hB1.size
  simp only [World.size_alloc] at hs1
  have hg0 := (hown1'.lt _ rfl).2
  have hown2 := own_later hown1' hb2
  have hB2 := hB1.trans (hb2.mono (by omega))
  clear hc hf hbu hmk
  obtain ⟨cl, lv, rfl, hcap, hlcell⟩ : ∃ (A : Option Addr) (cap : Nat), v = .slice A (wholesL b).length cap ∧ (wholesL b).length ≤ cap ∧ True := by
    rcases hv.2 with ⟨rfl, h⟩ | ⟨g, cap, cur, rfl, _, _, h, _⟩
    · exact ⟨none, 0, by rw [h], by omega, trivial⟩
    · exact ⟨_, cap, rfl, h, trivial⟩
  go_wp2_with fail
  go_loopw [7] (fun i wr => ∃ j : Nat, j ≤ (wholesL b).length ∧ i = .int .i64 j ∧ wr.ownsRow (w.heap.size + 1) 3 1 (.slice (some ⟨w.heap.size + 1, 0, none⟩) (N + 1) (N + 1)) (N + 1) ((wsP b s j).map (Value.int .i64)) ∧ wr.ownsRow (w.heap.size + 2) 23 3 (.slice cl (wholesL b).length lv) (wholesL b).length ((wholesL b).flatMap k3C) ∧ Below (w.heap.size + 1) (w.alloc (.cells (btC b) 34)) wr) (fun i _ => (wholesL b).length - (intOf i).toNat)
  case atStart => exact ⟨0, by omega, rfl, hown2, Joins.ownsRow_le hv (by omega), hB2⟩
  case round =>
    obtain ⟨j, hj, rfl, hO, hL, hb⟩ := hrel
    by_cases hlt : j < (wholesL b).length
    · obtain ⟨lb, cap', he⟩ := Joins.ownsRow_form hL (by omega)
      simp only [Value.slice.injEq] at he
      obtain ⟨rfl, -, rfl⟩ := he
      obtain ⟨x, hx0⟩ : ∃ x, (wholesL b)[j]? = some x := ⟨_, List.getElem?_eq_getElem hlt⟩
      obtain ⟨hwx, hxr⟩ := whole_of h0 h1 hx0
      obtain ⟨m, hm⟩ := Int.eq_ofNat_of_zero_le (hxr s).1
      have hmN : m ≤ N := by have := (hxr s).2; omega
      have hlb := hL.lt _ rfl
      have hz1 : lb < wr.heap.size := hlb.2
      have hz2 : w.heap.size + 1 < wr.heap.size := by omega
      have hz3 : w.heap.size < wr.heap.size := by omega
      have cs : wr.cell? ⟨lb, j * 3 + s, none⟩ = some (.int .i64 m) := by rw [hL.cellAt _ (by omega), flat_at3 hx0 s hs, hm]
      have c0 : wr.cell? ⟨lb, j * 3, none⟩ = some (.int .i64 x.a) := by have := flat_at3 hx0 0 (by omega); rw [hL.cellAt _ (by omega)]; exact this
      have c1 : wr.cell? ⟨lb, j * 3 + 1, none⟩ = some (.int .i64 x.b) := by rw [hL.cellAt _ (by omega)]; exact flat_at3 hx0 1 (by omega)
      have c2 : wr.cell? ⟨lb, j * 3 + 2, none⟩ = some (.int .i64 x.c) := by rw [hL.cellAt _ (by omega)]; exact flat_at3 hx0 2 (by omega)
      have co : wr.cell? ⟨w.heap.size + 1, m, none⟩ = some (.int .i64 (wAt ((wholesL b).take j) b.s s m)) := by rw [hO.cellAt _ (by omega), List.getElem?_map, wsP_at (by rw [HT.out]; exact hmN)]; rfl
      have hset := Lib.hid (wsP_set (sort := s) hx0 hm (by rw [HT.out]; exact hmN))
      have hx := Lib.hid hx0
      have k1 := waysI_nonneg x b.s
      have k2 := waysI_le (s := b.s) hwx
      have k3 := wAt_nonneg ((wholesL b).take j) b.s s m
      have k4 : wAt ((wholesL b).take j) b.s s m ≤ 495918532948104 := Int.le_trans (wAt_le _ _ _ _) (Int.le_trans (sumL_take_le (fun _ _ => waysI_nonneg _ _) _) hbd.out)
      have hbu := hb
      unfold btC at hbu
      obtain ⟨hc, hf⟩ := bcellB hbu
      clear hx0 hm hxr hbu hlb hf
      go_wp2
      refine wp_region_grown_tail 17 (by kernel_rfl) (by kernel_rfl) fun hcg => ?_
      simp only [List.take_succ_cons, List.take_zero, List.drop_succ_cons, List.drop_zero]
      repeat (go_big_quiet_step (first | (go_at_call 133; exact Calls.grown (ways3_c _ _ _ hwx hso))))
      refine wpQuiet_nil ?_
      intro _ hw'
      obtain ⟨g, hw''⟩ := hw'
      subst hw''
      have hO2 := own_later hO g.b
      have hL2 := own_later hL g.b
      have hBg := hb.trans (g.b.mono (by omega))
      have dc := (g.b.cell (p := ⟨w.heap.size + 1, m, none⟩) hz2).trans co
      have df := hO2.frozenAt m
      have hst := Lib.hid (hO2.stored m (.int .i64 (wAt ((wholesL b).take j) b.s s m + waysI x b.s))).1
      clear hc hcg
      go_wp2
      go_roundw
      case rel => exact ⟨j + 1, by omega, by go_num, by have := hst.out; rwa [← List.map_set (f := Value.int .i64), hset.out] at this, ownsRow_setCell_below hL2 (by simp) _, hBg.setCell (by simp) _⟩
      case measure => simp [intOf]; omega
    · obtain rfl : j = (wholesL b).length := by omega
      go_wp2
      go_ret
      refine ⟨_, rfl, ?_, below_then (below_alloc _ _) (hb.mono (by simp))⟩
      rw [wsP_all] at hO
      exact Joins.ownsRow_le hO (by omega)
end Go.Proofs.Ytaaeipjnhjgjdaa
/- Sums of weights, by the reference. -/
namespace Go.Proofs.Ytaaeipjnhjgjdaa
open Go.RowKit

theorem sumI_tail {f : Nat → Int} {j : Nat} (h : ∀ i, j ≤ i → f i = 0) : ∀ {n : Nat}, j ≤ n → sumI f n = sumI f j
  | 0, hn => by rw [show j = 0 by omega]
  | n + 1, hn => by
    rcases Nat.lt_or_ge n j with h2 | h2
    · rw [show j = n + 1 by omega]
    · rw [sumI, h n h2, sumI_tail h h2]; omega
theorem weight3_c (l : List Int) (s : Sp) (v : Value) (w : World) (hv : Ints w w.heap.size v l) (hl : l.length ≤ 51) (hp : ∀ x ∈ l, 0 ≤ x) (hM : totalI l ≤ 495918532948104) :
    Calls Try.prog 99 #[v, spV s] w fun e w' => e = .returned (.int .i64 (spanI l s)) ∧ Below w.heap.size w w' := by
  unfold spV
  obtain ⟨A, cap, rfl, hcap, hn, hat⟩ := hv.open_
  have H := Lib.hid hat
  have HS := Lib.hid (fun (j : Nat) (hj : j ≤ l.length) => spanP_le (s := s) hp hj)
  have HM := Lib.hid hM
  rw [totalI_eq] at hM
  have HM' := Lib.hid hM
  clear hat hM
  obtain ⟨c, hc⟩ : ∃ c : Nat, (c : Int) = max 0 s.lo := ⟨(max 0 s.lo).toNat, by omega⟩
  have hz : Hid (∀ j, j ≤ c → sumI (inSp l s) j = 0) := fun j hj => sumI_zero fun i hi => by unfold inSp; rw [if_neg (by omega)]
  have hcm : max 0 s.lo ≤ c ∧ (c : Int) ≤ max 0 s.lo := by omega
  have hC := Lib.hid hc
  clear hc
  by_cases h0 : s.lo ≤ 0
  all_goals
    go_enter Try.func99, Try.ntmps99
    go_wp2
    go_loop [5, 6] (fun n i => ∃ j : Nat, i = .int .i64 j ∧ s.lo ≤ j ∧ (j ≤ l.length ∨ j ≤ c) ∧ n = .int .i64 (sumI (inSp l s) (min j l.length))) (fun _ i => l.length - (intOf i).toNat)
    case atStart => exact ⟨c, by rw [hC.out]; congr 1; omega, by omega, Or.inr (Nat.le_refl _), by rw [hz.out _ (by omega)]⟩
    case round =>
      obtain ⟨j, rfl, hlo, hjc, rfl⟩ := hrel
      by_cases hlt : j < l.length
      · have hd1 : decide (j < l.length) = true := decide_eq_true hlt
        by_cases hhi : (j : Int) ≤ s.hi
        · obtain ⟨b, off, x, rfl, hb, hx0, c0⟩ := H.out j hlt
          have hx := Lib.hid hx0
          have hstep : Hid (sumI (inSp l s) (min j l.length) + x = sumI (inSp l s) (min (j + 1) l.length)) := by
            show sumI (inSp l s) (min j l.length) + x = _
            rw [Nat.min_eq_left (by omega), Nat.min_eq_left (by omega), sumI]
            congr 1
            unfold inSp
            rw [if_pos ⟨hlo, hhi⟩, List.getD_eq_getElem?_getD, hx0]; rfl
          have k1 := (HS.out (min j l.length) (by omega)).1
          have k2 := Int.le_trans (HS.out (min j l.length) (by omega)).2 HM'.out
          have k3 := hp x (List.mem_of_getElem? hx0)
          have k4 : x ≤ 495918532948104 := by
            have := (HS.out (min (j + 1) l.length) (by omega)).2
            have := HM'.out
            have := hstep.out
            omega
          clear hx0
          go_wp2
          go_round
          case rel => exact ⟨j + 1, by go_num, by omega, by omega, by rw [hstep.out]⟩
          case measure => simp [intOf]; omega
        · have hend : Hid (spanI l s = sumI (inSp l s) (min j l.length)) := by
            show spanI l s = _
            rw [spanI_eq, Nat.min_eq_left (by omega)]
            exact sumI_tail (fun i hi => by unfold inSp; rw [if_neg (by omega)]) (by omega)
          go_wp2
          go_ret
          exact ⟨ret_int hend.out.symm, below_alloc _ _⟩
      · have hend : Hid (spanI l s = sumI (inSp l s) (min j l.length)) := by
          show spanI l s = _
          rw [spanI_eq, Nat.min_eq_right (by omega)]
        go_wp2
        go_ret
        exact ⟨ret_int hend.out.symm, below_alloc _ _⟩
end Go.Proofs.Ytaaeipjnhjgjdaa
/- The reference's total, kind and ends. -/
namespace Go.Proofs.Ytaaeipjnhjgjdaa
open Go.RowKit

theorem total3_c (l : List Int) (v : Value) (w : World) (hv : Ints w w.heap.size v l) (hl : l.length ≤ 51) (hp : ∀ x ∈ l, 0 ≤ x) (hM : totalI l ≤ 495918532948104) :
    Calls Try.prog 100 #[v] w fun e w' => e = .returned (.int .i64 (totalI l)) ∧ Below w.heap.size w w' := by
  obtain ⟨A, cap, rfl, hcap, hn, hat⟩ := id hv
  clear hat
  go_enter Try.func100, Try.ntmps100
  go_wp2_with fail
  refine (weight3_c l ⟨0, l.length⟩ _ _ hv hl hp hM).mono ?_
  rintro e w1 ⟨rfl, hb1⟩
  go_wp2_with fail
  go_ret
  exact ⟨rfl, hb1⟩

theorem kind3_c (b : Bt) (s : Int) (w : World) :
    Calls Try.prog 84 #[btV b, .int .i64 s] w fun e w' => e = .returned (.int .i64 (kindI b s)) ∧ Below w.heap.size w w' := by
  unfold btV
  by_cases h : checkB b = 0
  · have hd : (checkB b == 0) = true := by simpa using h
    rcases Bool.eq_false_or_eq_true (inI s 0 2) with h2 | h2
    · have hk : Hid (kindI b s = checkB b) := by show kindI b s = _; simp [kindI, h, h2]
      have hh := Lib.hid h
      have hh2 := Lib.hid h2
      clear h h2
      go_enter Try.func84, Try.ntmps84
      go_wp2_with fail
      refine (Check3_c b _).mono ?_
      rintro e w1 ⟨rfl, hb1⟩
      go_wp2_with fail
      refine (in3_b _ hh2.out).mono ?_
      rintro e w2 ⟨rfl, hb2⟩
      go_wp2_with fail
      go_ret
      exact ⟨ret_int hk.out.symm, below_then (below_alloc _ _) (below_then hb1 hb2)⟩
    · have hk : Hid (kindI b s = 1) := by show kindI b s = _; simp [kindI, h, h2]
      have hh := Lib.hid h
      have hh2 := Lib.hid h2
      clear h h2
      go_enter Try.func84, Try.ntmps84
      go_wp2_with fail
      refine (Check3_c b _).mono ?_
      rintro e w1 ⟨rfl, hb1⟩
      go_wp2_with fail
      refine (in3_b _ hh2.out).mono ?_
      rintro e w2 ⟨rfl, hb2⟩
      go_wp2_with fail
      go_ret
      exact ⟨ret_int hk.out.symm, below_then (below_alloc _ _) (below_then hb1 hb2)⟩
  · have hd : (checkB b == 0) = false := by simpa using h
    have hk : Hid (kindI b s = checkB b) := by show kindI b s = _; simp [kindI, h]
    clear h
    go_enter Try.func84, Try.ntmps84
    go_wp2_with fail
    refine (Check3_c b _).mono ?_
    rintro e w1 ⟨rfl, hb1⟩
    go_wp2_with fail
    go_ret
    exact ⟨ret_int hk.out.symm, below_then (below_alloc _ _) hb1⟩
end Go.Proofs.Ytaaeipjnhjgjdaa
/- The ends of a sort, by the reference. -/
namespace Go.Proofs.Ytaaeipjnhjgjdaa
open Go.RowKit

attribute [local go_sem] Rel RelAt RelUpon

set_option maxRecDepth 100000 in
theorem ends3_c (b : Bt) (s : Nat) (w : World) (h : checkB b = 0) (hs : s < 3) :
    Calls Try.prog 85 #[btV b, .int .i64 s] w fun e w' => e = .returned (spV (endsI b s)) ∧ Below w.heap.size w w' := by
  obtain ⟨hr, hne⟩ := check_ok h
  have hrn := right_n hr
  have h0 : 0 ≤ b.n := by omega
  have h1 : b.n ≤ 50 := hrn.2.1
  have hlen0 : 0 < (wholesL b).length := List.length_pos_iff.2 hne
  clear hr hne hrn h
  unfold btV
  go_enter Try.func85, Try.ntmps85
  go_wp2_with fail
  refine (wholes3_o b _ h0 h1).mono ?_
  rintro e w1 ⟨v, rfl, hv, hlen, hb1⟩
  obtain ⟨lb, cap, rfl⟩ := Joins.ownsRow_form hv hlen0
  obtain ⟨x, hx⟩ : ∃ x, (wholesL b)[0]? = some x := ⟨_, List.getElem?_eq_getElem hlen0⟩
  have hlb := hv.lt _ rfl
  have hz : lb < w1.heap.size := hlb.2
  have c0 : w1.cell? ⟨lb, s, none⟩ = some (.int .i64 (x.get s)) := by have := flat_at3 hx s hs; rw [Nat.zero_mul, Nat.zero_add] at this; rw [hv.cellAt _ (by omega)]; exact this
  go_wp2_with fail
  have hB1 : Below w.heap.size w w1 := below_then (below_alloc _ _) (below_then (below_alloc _ _) hb1)
  have hy : w1.heap[w.heap.size + 1]? = some (.cells #[.int .i64 0, .int .i64 0] 31) := by
    rw [hb1.block (w.heap.size + 1) (by simp)]
    have := heap_alloc_new (w.alloc (.cells (btC b) 34)) (.cells #[.int .i64 0, .int .i64 0] 31)
    simpa [btC] using this
  have hw1 := hb1.size
  simp only [World.size_alloc] at hw1
  have hyz : w.heap.size + 1 < w1.heap.size := by omega
  have hs' : (s : Int) < 3 := by omega
  have hs0 : 0 ≤ (s : Int) := Int.natCast_nonneg _
  refine wp_region_boxed 11 (by kernel_rfl) (by kernel_rfl) (by intro c a d v w h; cases d <;> exact h) fun hcg => ?_
  simp only [List.take_succ_cons, List.take_zero, List.drop_succ_cons, List.drop_zero]
  repeat (refine wpRel_step (fun K hK => ?_); go_simp; refine hK _ ?_; clear hK K)
  refine wpRel_nil fun g => ?_
  refine ⟨rfl, ?_⟩
  go_simp
  have hgs := g.b.size
  obtain ⟨pb, hpb⟩ : ∃ pb, pb = g.val.heap.size := ⟨_, rfl⟩
  have hpw : w1.heap.size ≤ pb := by omega
  refine ⟨below_then g.b (below_alloc _ _), fun u hu => ?_⟩
  have hu0 : u.heap[pb]? = some (.cells #[.int .i64 0, .int .i64 0] 31) := by
    rw [hu.block pb (by simp; omega), hpb]; exact heap_alloc_new _ _
  have hue0 := Joins.cell_of_block hu0 0
  have hue1 := Joins.cell_of_block hu0 1
  have huf0 := Joins.unfrozen_of_block hu0 0
  have huf1 := Joins.unfrozen_of_block hu0 1
  have hBu : Below w1.heap.size w1 u := below_then g.b (below_then (below_alloc _ _) hu)
  rw [← hpb]
  clear hpb
  refine ⟨rfl, ?_⟩
  go_simp
  have hpz : pb < u.heap.size := (Array.getElem?_eq_some_iff.1 hu0).1
  have hv1 := Joins.block_setCell (i := 1) (Joins.block_setCell (i := 0) hu0 (.int .i64 (x.get s))) (.int .i64 (x.get s))
  have hBv : Below w1.heap.size w1 ((u.setCell ⟨pb, 0, none⟩ (.int .i64 (x.get s))).setCell ⟨pb, 1, none⟩ (.int .i64 (x.get s))) := (hBu.setCell hpw _).setCell hpw _
  have hvz : pb < ((u.setCell ⟨pb, 0, none⟩ (.int .i64 (x.get s))).setCell ⟨pb, 1, none⟩ (.int .i64 (x.get s))).heap.size := (Array.getElem?_eq_some_iff.1 hv1).1
  refine ⟨hBv, fun u2 hu2 => ?_⟩
  have hP2 := (hu2.block pb hvz).trans hv1
  have hB2 := hBv.trans (hu2.mono (by omega))
  have hB2' := hB1.trans (hB2.mono (by omega))
  have hv2 := own_later hv hB2
  have hlast : u2.heap[pb]? = some (.cells #[.int .i64 (endsP b s 0).lo, .int .i64 (endsP b s 0).hi] 31) := by
    rw [hP2]
    have : (wholesL b).headD ⟨0, 0, 0⟩ = x := by
      cases hl : wholesL b with
      | nil => rw [hl] at hx; simp at hx
      | cons y l => rw [hl] at hx; simpa using hx
    unfold endsP
    rw [this]; rfl
  clear hu0 hue0 hue1 huf0 huf1 hv1 hBv hvz hu2 hP2 hBu hu hv c0 hx hcg hpz
  show Exit.then _ _ Exit.normal _ u2
  go_wp2
  go_loopw [7] (fun i wr => ∃ j : Nat, j ≤ (wholesL b).length ∧ i = .int .i64 j ∧ wr.heap[pb]? = some (.cells #[.int .i64 (endsP b s j).lo, .int .i64 (endsP b s j).hi] 31) ∧ Below pb u2 wr) (fun i _ => (wholesL b).length - (intOf i).toNat)
  case atStart => exact ⟨0, by omega, rfl, hlast, Below.refl _ _⟩
  case round =>
    clear hlast
    obtain ⟨j, hj, rfl, hP, hb⟩ := hrel
    have hpz := (Array.getElem?_eq_some_iff.1 hP).1
    have e0 := Joins.cell_of_block hP 0
    have e1 := Joins.cell_of_block hP 1
    have f0 := Joins.unfrozen_of_block hP 0
    have f1 := Joins.unfrozen_of_block hP 1
    by_cases hlt : j < (wholesL b).length
    · obtain ⟨x, hx0⟩ : ∃ x, (wholesL b)[j]? = some x := ⟨_, List.getElem?_eq_getElem hlt⟩
      have hst := Lib.hid (endsP_step (s := s) hx0)
      have hlp : lb < pb := by omega
      have cj : wr.cell? ⟨lb, j * 3 + s, none⟩ = some (.int .i64 (x.get s)) := by
        rw [hb.cell (p := ⟨lb, j * 3 + s, none⟩) hlp, hv2.cellAt _ (by omega), flat_at3 hx0 s hs]
      have hz2 : lb < wr.heap.size := by omega
      clear hx0
      by_cases a1 : x.get s < (endsP b s j).lo
      · have d1 : decide (x.get s < (endsP b s j).lo) = true := decide_eq_true a1
        by_cases a2 : (endsP b s j).hi < x.get s
        · go_wp2
          refine wp_region_grown_tail 9 (by kernel_rfl) (by kernel_rfl) fun hcg => ?_
          simp only [List.take_succ_cons, List.take_zero, List.drop_succ_cons, List.drop_zero]
          repeat (go_big_quiet_step (fail))
          refine wpQuiet_nil ?_
          intro _ hw'
          obtain ⟨ga, hw''⟩ := hw'
          subst hw''
          have hPga := (ga.b.block pb hpz).trans hP
          have hbga := hb.trans (ga.b.mono (Nat.le_of_lt hpz))
          have e0ga := Joins.cell_of_block hPga 0
          have e1ga := Joins.cell_of_block hPga 1
          have f0ga := Joins.unfrozen_of_block hPga 0
          have f1ga := Joins.unfrozen_of_block hPga 1
          have hqga := Joins.block_setCell (i := 0) hPga (.int .i64 (x.get s))
          have hbqga := hbga.setCell (p := ⟨pb, 0, none⟩) (Nat.le_refl pb) (.int .i64 (x.get s))
          clear hcg
          go_wp2
          generalize ga.val.setCell ⟨pb, 0, none⟩ (.int .i64 (x.get s)) = W2 at hqga hbqga ⊢
          have hPw : W2.heap[pb]? = some (.cells #[.int .i64 (x.get s), .int .i64 (endsP b s j).hi] 31) := hqga
          have hpzw := (Array.getElem?_eq_some_iff.1 hPw).1
          have hbw := hbqga
          have e0w := Joins.cell_of_block hPw 0
          have e1w := Joins.cell_of_block hPw 1
          have cjw : W2.cell? ⟨lb, j * 3 + s, none⟩ = some (.int .i64 (x.get s)) := by
            rw [hbw.cell (p := ⟨lb, j * 3 + s, none⟩) hlp, ← hb.cell (p := ⟨lb, j * 3 + s, none⟩) hlp, cj]
          have hz2w : lb < W2.heap.size := by omega
          clear hqga hbqga hPga hbga e0ga e1ga f0ga f1ga
          refine wp_region_grown_tail 9 (by kernel_rfl) (by kernel_rfl) fun hcg => ?_
          simp only [List.take_succ_cons, List.take_zero, List.drop_succ_cons, List.drop_zero]
          repeat (go_big_quiet_step (fail))
          refine wpQuiet_nil ?_
          intro _ hw'
          obtain ⟨gb, hw''⟩ := hw'
          subst hw''
          have hPgb := (gb.b.block pb hpzw).trans hPw
          have hbgb := hbw.trans (gb.b.mono (Nat.le_of_lt hpzw))
          have e0gb := Joins.cell_of_block hPgb 0
          have e1gb := Joins.cell_of_block hPgb 1
          have f0gb := Joins.unfrozen_of_block hPgb 0
          have f1gb := Joins.unfrozen_of_block hPgb 1
          have hqgb := Joins.block_setCell (i := 1) hPgb (.int .i64 (x.get s))
          have hbqgb := hbgb.setCell (p := ⟨pb, 1, none⟩) (Nat.le_refl pb) (.int .i64 (x.get s))
          clear hcg
          go_wp2
          go_roundw
          case rel => exact ⟨j + 1, by omega, by go_num, by rw [hst.out, show min (endsP b s j).lo (x.get s) = (x.get s) by omega, show max (endsP b s j).hi (x.get s) = (x.get s) by omega]; exact hqgb, hbqgb⟩
          case measure => simp [intOf]; omega
        · go_wp2
          refine wp_region_grown_tail 9 (by kernel_rfl) (by kernel_rfl) fun hcg => ?_
          simp only [List.take_succ_cons, List.take_zero, List.drop_succ_cons, List.drop_zero]
          repeat (go_big_quiet_step (fail))
          refine wpQuiet_nil ?_
          intro _ hw'
          obtain ⟨ga, hw''⟩ := hw'
          subst hw''
          have hPga := (ga.b.block pb hpz).trans hP
          have hbga := hb.trans (ga.b.mono (Nat.le_of_lt hpz))
          have e0ga := Joins.cell_of_block hPga 0
          have e1ga := Joins.cell_of_block hPga 1
          have f0ga := Joins.unfrozen_of_block hPga 0
          have f1ga := Joins.unfrozen_of_block hPga 1
          have hqga := Joins.block_setCell (i := 0) hPga (.int .i64 (x.get s))
          have hbqga := hbga.setCell (p := ⟨pb, 0, none⟩) (Nat.le_refl pb) (.int .i64 (x.get s))
          clear hcg
          go_wp2
          generalize ga.val.setCell ⟨pb, 0, none⟩ (.int .i64 (x.get s)) = W2 at hqga hbqga ⊢
          have hPw : W2.heap[pb]? = some (.cells #[.int .i64 (x.get s), .int .i64 (endsP b s j).hi] 31) := hqga
          have hpzw := (Array.getElem?_eq_some_iff.1 hPw).1
          have hbw := hbqga
          have e0w := Joins.cell_of_block hPw 0
          have e1w := Joins.cell_of_block hPw 1
          have cjw : W2.cell? ⟨lb, j * 3 + s, none⟩ = some (.int .i64 (x.get s)) := by
            rw [hbw.cell (p := ⟨lb, j * 3 + s, none⟩) hlp, ← hb.cell (p := ⟨lb, j * 3 + s, none⟩) hlp, cj]
          have hz2w : lb < W2.heap.size := by omega
          clear hqga hbqga hPga hbga e0ga e1ga f0ga f1ga
          refine wp_region_grown_tail 9 (by kernel_rfl) (by kernel_rfl) fun hcg => ?_
          simp only [List.take_succ_cons, List.take_zero, List.drop_succ_cons, List.drop_zero]
          repeat (go_big_quiet_step (fail))
          refine wpQuiet_nil ?_
          intro _ hw'
          obtain ⟨gb, hw''⟩ := hw'
          subst hw''
          have hPgb := (gb.b.block pb hpzw).trans hPw
          have hbgb := hbw.trans (gb.b.mono (Nat.le_of_lt hpzw))
          have e0gb := Joins.cell_of_block hPgb 0
          have e1gb := Joins.cell_of_block hPgb 1
          have f0gb := Joins.unfrozen_of_block hPgb 0
          have f1gb := Joins.unfrozen_of_block hPgb 1
          have hqgb := Joins.block_setCell (i := 1) hPgb (.int .i64 ((endsP b s j).hi))
          have hbqgb := hbgb.setCell (p := ⟨pb, 1, none⟩) (Nat.le_refl pb) (.int .i64 ((endsP b s j).hi))
          clear hcg
          go_wp2
          go_roundw
          case rel => exact ⟨j + 1, by omega, by go_num, by rw [hst.out, show min (endsP b s j).lo (x.get s) = (x.get s) by omega, show max (endsP b s j).hi (x.get s) = ((endsP b s j).hi) by omega]; exact hqgb, hbqgb⟩
          case measure => simp [intOf]; omega
      · have d1 : decide (x.get s < (endsP b s j).lo) = false := decide_eq_false a1
        by_cases a2 : (endsP b s j).hi < x.get s
        · go_wp2
          refine wp_region_grown_tail 9 (by kernel_rfl) (by kernel_rfl) fun hcg => ?_
          simp only [List.take_succ_cons, List.take_zero, List.drop_succ_cons, List.drop_zero]
          repeat (go_big_quiet_step (fail))
          refine wpQuiet_nil ?_
          intro _ hw'
          obtain ⟨ga, hw''⟩ := hw'
          subst hw''
          have hPga := (ga.b.block pb hpz).trans hP
          have hbga := hb.trans (ga.b.mono (Nat.le_of_lt hpz))
          have e0ga := Joins.cell_of_block hPga 0
          have e1ga := Joins.cell_of_block hPga 1
          have f0ga := Joins.unfrozen_of_block hPga 0
          have f1ga := Joins.unfrozen_of_block hPga 1
          have hqga := Joins.block_setCell (i := 0) hPga (.int .i64 ((endsP b s j).lo))
          have hbqga := hbga.setCell (p := ⟨pb, 0, none⟩) (Nat.le_refl pb) (.int .i64 ((endsP b s j).lo))
          clear hcg
          go_wp2
          generalize ga.val.setCell ⟨pb, 0, none⟩ (.int .i64 ((endsP b s j).lo)) = W2 at hqga hbqga ⊢
          have hPw : W2.heap[pb]? = some (.cells #[.int .i64 ((endsP b s j).lo), .int .i64 (endsP b s j).hi] 31) := hqga
          have hpzw := (Array.getElem?_eq_some_iff.1 hPw).1
          have hbw := hbqga
          have e0w := Joins.cell_of_block hPw 0
          have e1w := Joins.cell_of_block hPw 1
          have cjw : W2.cell? ⟨lb, j * 3 + s, none⟩ = some (.int .i64 (x.get s)) := by
            rw [hbw.cell (p := ⟨lb, j * 3 + s, none⟩) hlp, ← hb.cell (p := ⟨lb, j * 3 + s, none⟩) hlp, cj]
          have hz2w : lb < W2.heap.size := by omega
          clear hqga hbqga hPga hbga e0ga e1ga f0ga f1ga
          refine wp_region_grown_tail 9 (by kernel_rfl) (by kernel_rfl) fun hcg => ?_
          simp only [List.take_succ_cons, List.take_zero, List.drop_succ_cons, List.drop_zero]
          repeat (go_big_quiet_step (fail))
          refine wpQuiet_nil ?_
          intro _ hw'
          obtain ⟨gb, hw''⟩ := hw'
          subst hw''
          have hPgb := (gb.b.block pb hpzw).trans hPw
          have hbgb := hbw.trans (gb.b.mono (Nat.le_of_lt hpzw))
          have e0gb := Joins.cell_of_block hPgb 0
          have e1gb := Joins.cell_of_block hPgb 1
          have f0gb := Joins.unfrozen_of_block hPgb 0
          have f1gb := Joins.unfrozen_of_block hPgb 1
          have hqgb := Joins.block_setCell (i := 1) hPgb (.int .i64 (x.get s))
          have hbqgb := hbgb.setCell (p := ⟨pb, 1, none⟩) (Nat.le_refl pb) (.int .i64 (x.get s))
          clear hcg
          go_wp2
          go_roundw
          case rel => exact ⟨j + 1, by omega, by go_num, by rw [hst.out, show min (endsP b s j).lo (x.get s) = ((endsP b s j).lo) by omega, show max (endsP b s j).hi (x.get s) = (x.get s) by omega]; exact hqgb, hbqgb⟩
          case measure => simp [intOf]; omega
        · go_wp2
          refine wp_region_grown_tail 9 (by kernel_rfl) (by kernel_rfl) fun hcg => ?_
          simp only [List.take_succ_cons, List.take_zero, List.drop_succ_cons, List.drop_zero]
          repeat (go_big_quiet_step (fail))
          refine wpQuiet_nil ?_
          intro _ hw'
          obtain ⟨ga, hw''⟩ := hw'
          subst hw''
          have hPga := (ga.b.block pb hpz).trans hP
          have hbga := hb.trans (ga.b.mono (Nat.le_of_lt hpz))
          have e0ga := Joins.cell_of_block hPga 0
          have e1ga := Joins.cell_of_block hPga 1
          have f0ga := Joins.unfrozen_of_block hPga 0
          have f1ga := Joins.unfrozen_of_block hPga 1
          have hqga := Joins.block_setCell (i := 0) hPga (.int .i64 ((endsP b s j).lo))
          have hbqga := hbga.setCell (p := ⟨pb, 0, none⟩) (Nat.le_refl pb) (.int .i64 ((endsP b s j).lo))
          clear hcg
          go_wp2
          generalize ga.val.setCell ⟨pb, 0, none⟩ (.int .i64 ((endsP b s j).lo)) = W2 at hqga hbqga ⊢
          have hPw : W2.heap[pb]? = some (.cells #[.int .i64 ((endsP b s j).lo), .int .i64 (endsP b s j).hi] 31) := hqga
          have hpzw := (Array.getElem?_eq_some_iff.1 hPw).1
          have hbw := hbqga
          have e0w := Joins.cell_of_block hPw 0
          have e1w := Joins.cell_of_block hPw 1
          have cjw : W2.cell? ⟨lb, j * 3 + s, none⟩ = some (.int .i64 (x.get s)) := by
            rw [hbw.cell (p := ⟨lb, j * 3 + s, none⟩) hlp, ← hb.cell (p := ⟨lb, j * 3 + s, none⟩) hlp, cj]
          have hz2w : lb < W2.heap.size := by omega
          clear hqga hbqga hPga hbga e0ga e1ga f0ga f1ga
          refine wp_region_grown_tail 9 (by kernel_rfl) (by kernel_rfl) fun hcg => ?_
          simp only [List.take_succ_cons, List.take_zero, List.drop_succ_cons, List.drop_zero]
          repeat (go_big_quiet_step (fail))
          refine wpQuiet_nil ?_
          intro _ hw'
          obtain ⟨gb, hw''⟩ := hw'
          subst hw''
          have hPgb := (gb.b.block pb hpzw).trans hPw
          have hbgb := hbw.trans (gb.b.mono (Nat.le_of_lt hpzw))
          have e0gb := Joins.cell_of_block hPgb 0
          have e1gb := Joins.cell_of_block hPgb 1
          have f0gb := Joins.unfrozen_of_block hPgb 0
          have f1gb := Joins.unfrozen_of_block hPgb 1
          have hqgb := Joins.block_setCell (i := 1) hPgb (.int .i64 ((endsP b s j).hi))
          have hbqgb := hbgb.setCell (p := ⟨pb, 1, none⟩) (Nat.le_refl pb) (.int .i64 ((endsP b s j).hi))
          clear hcg
          go_wp2
          go_roundw
          case rel => exact ⟨j + 1, by omega, by go_num, by rw [hst.out, show min (endsP b s j).lo (x.get s) = ((endsP b s j).lo) by omega, show max (endsP b s j).hi (x.get s) = ((endsP b s j).hi) by omega]; exact hqgb, hbqgb⟩
          case measure => simp [intOf]; omega
    · obtain rfl : j = (wholesL b).length := by omega
      have hyr := (hb.block (w.heap.size + 1) (by omega)).trans ((hB2.block (w.heap.size + 1) (by omega)).trans hy)
      have y0 := Joins.cell_of_block hyr 0
      have y1 := Joins.cell_of_block hyr 1
      have g0 := Joins.unfrozen_of_block hyr 0
      have g1 := Joins.unfrozen_of_block hyr 1
      have hyr1 := Joins.cell_of_block (Joins.block_setCell (i := 1) (Joins.block_setCell (i := 0) hyr (.int .i64 (endsP b s (wholesL b).length).lo)) (.int .i64 (endsP b s (wholesL b).length).hi))
      have d0 := hyr1 0
      have d1 := hyr1 1
      have hBe := hB2'.trans (hb.mono (by omega))
      clear hyr1
      go_wp2
      refine bodyPost_ret (v := spV (endsI b s)) ?_ rfl ⟨rfl, ?_⟩
      · simp at d0 d1
        simp [results, Try.results85, go_sem, d0, d1, endsI]
      · exact (hBe.setCell (by simp) _).setCell (by simp) _
end Go.Proofs.Ytaaeipjnhjgjdaa
/- What the reference answers about a batch and a sort. -/
namespace Go.Proofs.Ytaaeipjnhjgjdaa
open Go.RowKit

theorem put2 {w : World} {b : Nat} {t : TypeId} {p q : Value} (x y : Value) (h : w.heap[b]? = some (.cells #[p, q] t)) :
    ((w.setCell ⟨b, 0, none⟩ x).setCell ⟨b, 1, none⟩ y).cell? ⟨b, 0, none⟩ = some x ∧ ((w.setCell ⟨b, 0, none⟩ x).setCell ⟨b, 1, none⟩ y).cell? ⟨b, 1, none⟩ = some y := by
  have h1 := Joins.cell_of_block (Joins.block_setCell (i := 1) (Joins.block_setCell (i := 0) h x) y)
  have a := h1 0
  have b := h1 1
  simp at a b
  exact ⟨a, b⟩
theorem box2 (w : World) (o : Obj) (cs : Array Value) (t : TypeId) : ((w.alloc o).alloc (.cells cs t)).heap[w.heap.size + 1]? = some (.cells cs t) := by
  have := heap_alloc_new (w.alloc o) (.cells cs t)
  rw [World.size_alloc] at this
  exact this
theorem size_of_block {w : World} {b : Nat} {o : Obj} (h : w.heap[b]? = some o) : b < w.heap.size := (Array.getElem?_eq_some_iff.1 h).1

theorem Ends3_c (b : Bt) (s : Int) (w : World) :
    Calls Try.prog 28 #[btV b, .int .i64 s] w fun e w' => e = .returned (.tuple #[spV (endsR b s).1, .int .i64 (endsR b s).2]) ∧ Below w.heap.size w w' := by
  have hy0 := box2 w (.cells (btC b) 34) #[.int .i64 0, .int .i64 0] 31
  unfold btC at hy0
  have HY := Lib.hid hy0
  clear hy0
  unfold btV
  by_cases h : kindI b s = 0
  · have hd : (kindI b s != 0) = false := by simpa using h
    obtain ⟨hck, hs0, hs2⟩ := kind_ok h
    rw [show endsR b s = (endsI b s, 0) by unfold endsR; rw [if_pos h]]
    clear h
    obtain ⟨n, rfl⟩ := Int.eq_ofNat_of_zero_le hs0
    have hn3 : n < 3 := by omega
    have HC := Lib.hid hck
    clear hck
    go_enter Try.func28, Try.ntmps28
    go_wp2_with fail
    refine (kind3_c b _ _).mono ?_
    rintro e w1 ⟨rfl, hb1⟩
    obtain ⟨hc1, hf1⟩ := bcell hb1
    have hs1 := hb1.size
    simp only [World.size_alloc] at hs1
    have hz1 : w.heap.size < w1.heap.size := by omega
    go_wp2_with fail
    refine (ends3_c b n _ HC.out hn3).mono ?_
    rintro e w2 ⟨rfl, hb2⟩
    have hB := below_then (below_alloc w (.cells (btC b) 34)) (below_then (below_alloc _ _) (below_then hb1 hb2))
    have hy := (hb2.block (w.heap.size + 1) (by omega)).trans ((hb1.block (w.heap.size + 1) (by simp)).trans HY.out)
    have y0 := Joins.cell_of_block hy 0
    have y1 := Joins.cell_of_block hy 1
    have g0 := Joins.unfrozen_of_block hy 0
    have g1 := Joins.unfrozen_of_block hy 1
    have hp := put2 (.int .i64 (endsI b n).lo) (.int .i64 (endsI b n).hi) hy
    have HP := Lib.hid hp
    clear hp hc1 hf1
    go_wp2_with fail
    refine bodyPost_ret (v := .tuple #[spV (endsI b n), .int .i64 0]) ?_ rfl ⟨rfl, ?_⟩
    · simp [results, Try.results28, go_sem, HP.out.1, HP.out.2]
    · exact (hB.setCell (by simp) _).setCell (by simp) _
  · have hd : (kindI b s != 0) = true := by simpa using h
    rw [show endsR b s = (⟨0, 0⟩, kindI b s) by unfold endsR; rw [if_neg h]]
    clear h
    go_enter Try.func28, Try.ntmps28
    go_wp2_with fail
    refine (kind3_c b _ _).mono ?_
    rintro e w1 ⟨rfl, hb1⟩
    have hB := below_then (below_alloc w (.cells (btC b) 34)) (below_then (below_alloc _ _) hb1)
    have hy := (hb1.block (w.heap.size + 1) (by simp)).trans HY.out
    have y0 := Joins.cell_of_block hy 0
    have y1 := Joins.cell_of_block hy 1
    have g0 := Joins.unfrozen_of_block hy 0
    have g1 := Joins.unfrozen_of_block hy 1
    have hp := put2 (.int .i64 0) (.int .i64 0) hy
    have HP := Lib.hid hp
    clear hp
    go_wp2_with fail
    refine bodyPost_ret (v := .tuple #[spV ⟨0, 0⟩, .int .i64 (kindI b s)]) ?_ rfl ⟨rfl, ?_⟩
    · simp [results, Try.results28, go_sem, HP.out.1, HP.out.2]
    · exact (hB.setCell (by simp) _).setCell (by simp) _
end Go.Proofs.Ytaaeipjnhjgjdaa
/- More answers of the reference about a batch and a sort. -/
namespace Go.Proofs.Ytaaeipjnhjgjdaa
open Go.RowKit

theorem weights3_i (b : Bt) (s : Nat) (w : World) (h : checkB b = 0) (hs : s < 3) :
    Calls Try.prog 94 #[btV b, .int .i64 s] w fun e w' => ∃ v, e = .returned v ∧ Ints w' w'.heap.size v (weightsL b s) ∧ Below w.heap.size w w' := by
  have hn := right_n (check_ok h).1
  refine (weights3_c b s w (by omega) hn.2.1 hs hn.2.2.1).mono ?_
  rintro e w' ⟨v, he, ho, hb⟩
  rw [← weights_len b s] at ho
  exact ⟨v, he, Ints.of_own ho (by rw [weights_len]; omega), hb⟩

theorem AllWholes3_c (b : Bt) (w : World) :
    Calls Try.prog 26 #[btV b] w fun e w' => ∃ v, e = .returned (.agg #[v, .int .i64 (checkB b)]) ∧ K3s w' w'.heap.size v (if checkB b = 0 then wholesL b else []) ∧ Below w.heap.size w w' := by
  have hy0 := box2 w (.cells (btC b) 34) #[.slice none 0 0, .int .i64 0] 39
  unfold btC at hy0
  have HY := Lib.hid hy0
  clear hy0
  unfold btV
  by_cases h : checkB b = 0
  · have hd : (checkB b != 0) = false := by simpa using h
    have hn := right_n (check_ok h).1
    rw [if_pos h]
    have hh := Lib.hid h
    clear h
    go_enter Try.func26, Try.ntmps26
    go_wp2_with fail
    refine (Check3_c b _).mono ?_
    rintro e w1 ⟨rfl, hb1⟩
    obtain ⟨hc1, hf1⟩ := bcell hb1
    have hs1 := hb1.size
    simp only [World.size_alloc] at hs1
    have hz1 : w.heap.size < w1.heap.size := by omega
    have hy1 := (hb1.block (w.heap.size + 1) (by simp)).trans HY.out
    go_wp2_with fail
    refine (wholes3_o b _ (by omega) hn.2.1).mono ?_
    rintro e w2 ⟨v, rfl, hv, hlen, hb2⟩
    obtain ⟨A, cap, rfl, hcap, hvs⟩ : ∃ (A : Option Addr) (cap : Nat), v = .slice A (wholesL b).length cap ∧ (wholesL b).length ≤ cap ∧ True := by
      rcases hv.2 with ⟨rfl, h⟩ | ⟨g, cap, cur, rfl, _, _, h, _⟩
      · exact ⟨none, 0, by rw [h], by omega, trivial⟩
      · exact ⟨_, cap, rfl, h, trivial⟩
    have hB := below_then (below_alloc w (.cells (btC b) 34)) (below_then (below_alloc _ _) (below_then hb1 hb2))
    have hs2 := hb2.size
    have hy2 := (hb2.block (w.heap.size + 1) (by omega)).trans hy1
    have hv2 := (ownsRow_setCell_below (ownsRow_setCell_below hv (a := ⟨w.heap.size + 1, 0, none⟩) (by simp; omega) (.slice A (wholesL b).length cap)) (a := ⟨w.heap.size + 1, 1, none⟩) (by simp; omega) (.int .i64 0))
    clear hc1 hf1
    have y0 := Joins.cell_of_block hy2 0
    have y1 := Joins.cell_of_block hy2 1
    have g0 := Joins.unfrozen_of_block hy2 0
    have g1 := Joins.unfrozen_of_block hy2 1
    have hp := put2 (.slice A (wholesL b).length cap) (.int .i64 0) hy2
    have HP := Lib.hid hp
    clear hp
    go_wp2_with fail
    refine bodyPost_ret (v := .agg #[.slice A (wholesL b).length cap, .int .i64 0]) ?_ rfl ⟨_, by rw [hh.out], Sl.of_own k3C_len hv2 (by omega), (hB.setCell (by simp) _).setCell (by simp) _⟩
    · simp [results, Try.results26, go_sem, HP.out.1, HP.out.2]
  · have hd : (checkB b != 0) = true := by simpa using h
    rw [if_neg h]
    clear h
    go_enter Try.func26, Try.ntmps26
    go_wp2_with fail
    refine (Check3_c b _).mono ?_
    rintro e w1 ⟨rfl, hb1⟩
    obtain ⟨hc1, hf1⟩ := bcell hb1
    have hs1 := hb1.size
    simp only [World.size_alloc] at hs1
    have hz1 : w.heap.size < w1.heap.size := by omega
    have hy1 := (hb1.block (w.heap.size + 1) (by simp)).trans HY.out
    have hB := below_then (below_alloc w (.cells (btC b) 34)) (below_then (below_alloc _ _) hb1)
    have y0 := Joins.cell_of_block hy1 0
    have y1 := Joins.cell_of_block hy1 1
    have g0 := Joins.unfrozen_of_block hy1 0
    have g1 := Joins.unfrozen_of_block hy1 1
    have hp := put2 (.slice none 0 0) (.int .i64 (checkB b)) hy1
    have HP := Lib.hid hp
    clear hp
    go_wp2_with fail
    refine bodyPost_ret (v := .agg #[.slice none 0 0, .int .i64 (checkB b)]) ?_ rfl ⟨_, rfl, Sl.nil_, (hB.setCell (by simp) _).setCell (by simp) _⟩
    · simp [results, Try.results26, go_sem, HP.out.1, HP.out.2]

theorem Weights3_c (b : Bt) (s : Int) (w : World) :
    Calls Try.prog 33 #[btV b, .int .i64 s] w fun e w' => ∃ v, e = .returned (.agg #[v, .int .i64 (kindI b s)]) ∧ Ints w' w'.heap.size v (if kindI b s = 0 then weightsL b s else []) ∧ Below w.heap.size w w' := by
  have hy0 := box2 w (.cells (btC b) 34) #[.slice none 0 0, .int .i64 0] 50
  unfold btC at hy0
  have HY := Lib.hid hy0
  clear hy0
  unfold btV
  by_cases h : kindI b s = 0
  · have hd : (kindI b s != 0) = false := by simpa using h
    obtain ⟨hck, hs0, hs2⟩ := kind_ok h
    have hn := right_n (check_ok hck).1
    rw [if_pos h]
    have hh := Lib.hid h
    clear h
    obtain ⟨n, rfl⟩ := Int.eq_ofNat_of_zero_le hs0
    have hn3 : n < 3 := by omega
    have HC := Lib.hid hck
    clear hck
    go_enter Try.func33, Try.ntmps33
    go_wp2_with fail
    refine (kind3_c b _ _).mono ?_
    rintro e w1 ⟨rfl, hb1⟩
    obtain ⟨hc1, hf1⟩ := bcell hb1
    have hs1 := hb1.size
    simp only [World.size_alloc] at hs1
    have hz1 : w.heap.size < w1.heap.size := by omega
    have hy1 := (hb1.block (w.heap.size + 1) (by simp)).trans HY.out
    go_wp2_with fail
    refine (weights3_c b n _ (by omega) hn.2.1 hn3 hn.2.2.1).mono ?_
    rintro e w2 ⟨v, rfl, hv, hb2⟩
    obtain ⟨lb, cap, rfl⟩ := Joins.ownsRow_form hv (by omega)
    have hB := below_then (below_alloc w (.cells (btC b) 34)) (below_then (below_alloc _ _) (below_then hb1 hb2))
    have hs2 := hb2.size
    have hy2 := (hb2.block (w.heap.size + 1) (by omega)).trans hy1
    have hv2 := (ownsRow_setCell_below (ownsRow_setCell_below hv (a := ⟨w.heap.size + 1, 0, none⟩) (by simp; omega) (.slice (some ⟨lb, 0, none⟩) (b.n.toNat + 1) cap)) (a := ⟨w.heap.size + 1, 1, none⟩) (by simp; omega) (.int .i64 0))
    have HV := Lib.hid hv2
    clear hc1 hf1 hv2
    have y0 := Joins.cell_of_block hy2 0
    have y1 := Joins.cell_of_block hy2 1
    have g0 := Joins.unfrozen_of_block hy2 0
    have g1 := Joins.unfrozen_of_block hy2 1
    have hp := put2 (.slice (some ⟨lb, 0, none⟩) (b.n.toNat + 1) cap) (.int .i64 0) hy2
    have HP := Lib.hid hp
    clear hp
    go_wp2_with fail
    refine bodyPost_ret (v := .agg #[.slice (some ⟨lb, 0, none⟩) (b.n.toNat + 1) cap, .int .i64 0]) ?_ rfl ⟨_, by rw [hh.out], Ints.of_own (l := weightsL b n) (by rw [weights_len]; exact HV.out) (by rw [weights_len]; omega), (hB.setCell (by simp) _).setCell (by simp) _⟩
    · simp [results, Try.results33, go_sem, HP.out.1, HP.out.2]
  · have hd : (kindI b s != 0) = true := by simpa using h
    rw [if_neg h]
    clear h
    go_enter Try.func33, Try.ntmps33
    go_wp2_with fail
    refine (kind3_c b _ _).mono ?_
    rintro e w1 ⟨rfl, hb1⟩
    obtain ⟨hc1, hf1⟩ := bcell hb1
    have hs1 := hb1.size
    simp only [World.size_alloc] at hs1
    have hz1 : w.heap.size < w1.heap.size := by omega
    have hy1 := (hb1.block (w.heap.size + 1) (by simp)).trans HY.out
    have hB := below_then (below_alloc w (.cells (btC b) 34)) (below_then (below_alloc _ _) hb1)
    have y0 := Joins.cell_of_block hy1 0
    have y1 := Joins.cell_of_block hy1 1
    have g0 := Joins.unfrozen_of_block hy1 0
    have g1 := Joins.unfrozen_of_block hy1 1
    have hp := put2 (.slice none 0 0) (.int .i64 (kindI b s)) hy1
    have HP := Lib.hid hp
    clear hp
    go_wp2_with fail
    refine bodyPost_ret (v := .agg #[.slice none 0 0, .int .i64 (kindI b s)]) ?_ rfl ⟨_, rfl, Sl.nil_, (hB.setCell (by simp) _).setCell (by simp) _⟩
    · simp [results, Try.results33, go_sem, HP.out.1, HP.out.2]
end Go.Proofs.Ytaaeipjnhjgjdaa
/- Beliefs, means and odds, by the reference. -/
namespace Go.Proofs.Ytaaeipjnhjgjdaa
open Go.RowKit

theorem Mean3_c (b : Bt) (s : Int) (w : World) :
    Calls Try.prog 37 #[btV b, .int .i64 s] w fun e w' => e = .returned (.tuple #[rtV (meanR b s).1, .int .i64 (meanR b s).2]) ∧ Below w.heap.size w w' := by
  have hy0 := box2 w (.cells (btC b) 34) #[.int .i64 0, .int .i64 0] 53
  unfold btC at hy0
  have HY := Lib.hid hy0
  clear hy0
  unfold btV
  by_cases h : kindI b s = 0
  · have hd : (kindI b s != 0) = false := by simpa using h
    obtain ⟨hck, hs0, hs2⟩ := kind_ok h
    rw [show meanR b s = (ratioI (momI (weightsL b s) 0) (totalI (weightsL b s)), 0) by unfold meanR; rw [if_neg (by omega)]]
    clear h
    have hr := (check_ok hck).1
    have htp := total_pos hck s
    have hwn := weights_nonneg b s
    have hmb := fun j hj => momP_bound (l := weightsL b s) (d := 0) hwn (by omega) j hj
    have hm0 := mom_nonneg hr s (d := 0) (seen_get hr s).1
    have hwl := weights_len b s
    have hn := right_n hr
    obtain ⟨n, rfl⟩ := Int.eq_ofNat_of_zero_le hs0
    have hn3 : n < 3 := by omega
    have hlen51 : (weightsL b n).length ≤ 51 := by omega
    have hm1 : momI (weightsL b n) 0 ≤ 50 * 495918532948104 := by
      have := (hmb (weightsL b n).length hlen51).2
      have e := totalI_eq (weightsL b n)
      unfold momP at this
      unfold momI
      omega
    have HC := Lib.hid hck
    have HW := Lib.hid hwn
    have HL := Lib.hid hwl
    have HM := Lib.hid hmb
    clear hck hwn hwl hmb hr hn
    go_enter Try.func37, Try.ntmps37
    go_wp2_with fail
    refine (kind3_c b _ _).mono ?_
    rintro e w1 ⟨rfl, hb1⟩
    obtain ⟨hc1, hf1⟩ := bcell hb1
    have hs1 := hb1.size
    simp only [World.size_alloc] at hs1
    have hz1 : w.heap.size < w1.heap.size := by omega
    have hy1 := (hb1.block (w.heap.size + 1) (by simp)).trans HY.out
    go_wp2_with fail
    refine (weights3_i b n _ HC.out hn3).mono ?_
    rintro e w2 ⟨v, rfl, hv, hb2⟩
    have hB := below_then (below_alloc w (.cells (btC b) 34)) (below_then (below_alloc _ _) (below_then hb1 hb2))
    have hs2 := hb2.size
    have hy2 := (hb2.block (w.heap.size + 1) (by omega)).trans hy1
    obtain ⟨A, cap, rfl, hcap, hnn, hat⟩ := hv.open_
    have H := Lib.hid hat
    clear hat hc1 hf1
    go_wp2_with fail
    go_loop [8, 9] (fun m i => ∃ j : Nat, j ≤ (weightsL b n).length ∧ i = .int .i64 j ∧ m = .int .i64 (momP (weightsL b n) 0 j)) (fun _ i => (weightsL b n).length - (intOf i).toNat)
    case atStart => exact ⟨0, Nat.zero_le _, rfl, rfl⟩
    case round =>
      obtain ⟨j, hj, rfl, rfl⟩ := hrel
      by_cases hlt : j < (weightsL b n).length
      · obtain ⟨bb, off, x, rfl, hbb, hx0, c0⟩ := H.out j hlt
        have hxe : (weightsL b n).getD j 0 = x := by rw [List.getD_eq_getElem?_getD, hx0]; rfl
        have hx1 : 0 ≤ x := HW.out x (List.mem_of_getElem? hx0)
        have hx2 : x ≤ 495918532948104 := by
          have e := totalI_eq (weightsL b n)
          have := spanP_le (s := ⟨0, (weightsL b n).length⟩) HW.out (j := j + 1) (by omega)
          have hin : inSp (weightsL b n) ⟨0, (weightsL b n).length⟩ j = x := by unfold inSp; rw [if_pos (by simp only; omega), hxe]
          rw [sumI, hin] at this
          have h2 := (spanP_le (s := ⟨0, (weightsL b n).length⟩) HW.out (j := j) (by omega)).1
          omega
        have hstep : Hid (momP (weightsL b n) 0 j + (j : Int) * x = momP (weightsL b n) 0 (j + 1)) := by
          show momP (weightsL b n) 0 j + (j : Int) * x = _
          unfold momP; rw [sumI, hxe, Int.sub_zero]
        have hq := HM.out j (by omega)
        have hq3 : sumI (fun i => (weightsL b n).getD i 0) j ≤ 495918532948104 := by
          have e := totalI_eq (weightsL b n)
          have := sumI_mono (f := fun i => (weightsL b n).getD i 0) (n := j) (m := (weightsL b n).length) (by omega) (fun i _ => getD_nonneg HW.out i)
          omega
        have hjx := Int.mul_le_mul (a := (j : Int)) (b := x) (c := 50) (d := 495918532948104) (by omega) hx2 hx1 (by omega)
        have hjx0 : 0 ≤ (j : Int) * x := Int.mul_nonneg (by omega) hx1
        have q1 : -(24795926647405200) ≤ momP (weightsL b n) 0 j := by omega
        have q2 : momP (weightsL b n) 0 j ≤ 24795926647405200 := by omega
        clear hx0 hxe hq hq3
        go_wp2
        go_round
        case rel => exact ⟨j + 1, by omega, by go_num, by rw [hstep.out]⟩
        case measure => simp [intOf]; omega
      · obtain rfl : j = (weightsL b n).length := by omega
        rw [show momP (weightsL b n) 0 (weightsL b n).length = momI (weightsL b n) 0 from rfl]
        go_wp2_with fail
        refine (total3_c _ _ _ hv hlen51 HW.out htp.2).mono ?_
        rintro e w3 ⟨rfl, hb3⟩
        go_wp2_with fail
        refine (ratio3_c _ _ _ hm0 (by omega) (by omega) (by omega)).mono ?_
        rintro e w4 ⟨rfl, hb4⟩
        have hs3 := hb3.size
        have hy4 := (hb4.block (w.heap.size + 1) (by omega)).trans ((hb3.block (w.heap.size + 1) (by omega)).trans hy2)
        have hB4 := below_then hB (below_then hb3 hb4)
        have y0 := Joins.cell_of_block hy4 0
        have y1 := Joins.cell_of_block hy4 1
        have g0 := Joins.unfrozen_of_block hy4 0
        have g1 := Joins.unfrozen_of_block hy4 1
        have hp := put2 (.int .i64 (ratioI (momI (weightsL b n) 0) (totalI (weightsL b n))).num) (.int .i64 (ratioI (momI (weightsL b n) 0) (totalI (weightsL b n))).den) hy4
        have HP := Lib.hid hp
        clear hp
        go_wp2_with fail
        refine bodyPost_ret (v := .tuple #[rtV (ratioI (momI (weightsL b n) 0) (totalI (weightsL b n))), .int .i64 0]) ?_ rfl ⟨rfl, ?_⟩
        · simp [results, Try.results37, go_sem, HP.out.1, HP.out.2]
        · exact (hB4.setCell (by simp) _).setCell (by simp) _
  · have hd : (kindI b s != 0) = true := by simpa using h
    rw [show meanR b s = (⟨0, 0⟩, kindI b s) by unfold meanR; rw [if_pos h]]
    clear h
    go_enter Try.func37, Try.ntmps37
    go_wp2_with fail
    refine (kind3_c b _ _).mono ?_
    rintro e w1 ⟨rfl, hb1⟩
    have hB := below_then (below_alloc w (.cells (btC b) 34)) (below_then (below_alloc _ _) hb1)
    have hy := (hb1.block (w.heap.size + 1) (by simp)).trans HY.out
    have y0 := Joins.cell_of_block hy 0
    have y1 := Joins.cell_of_block hy 1
    have g0 := Joins.unfrozen_of_block hy 0
    have g1 := Joins.unfrozen_of_block hy 1
    have hp := put2 (.int .i64 0) (.int .i64 0) hy
    have HP := Lib.hid hp
    clear hp
    go_wp2_with fail
    refine bodyPost_ret (v := .tuple #[rtV ⟨0, 0⟩, .int .i64 (kindI b s)]) ?_ rfl ⟨rfl, ?_⟩
    · simp [results, Try.results37, go_sem, HP.out.1, HP.out.2]
    · exact (hB.setCell (by simp) _).setCell (by simp) _
end Go.Proofs.Ytaaeipjnhjgjdaa
/- The odds of the next barrow, by the reference. -/
namespace Go.Proofs.Ytaaeipjnhjgjdaa
open Go.RowKit

set_option maxHeartbeats 400000 in
theorem Next3_c (b : Bt) (s : Int) (w : World) :
    Calls Try.prog 39 #[btV b, .int .i64 s] w fun e w' => e = .returned (.tuple #[rtV (nextR b s).1, .int .i64 (nextR b s).2]) ∧ Below w.heap.size w w' := by
  have hy0 := box2 w (.cells (btC b) 34) #[.int .i64 0, .int .i64 0] 53
  unfold btC at hy0
  have HY := Lib.hid hy0
  clear hy0
  unfold btV
  by_cases h : kindI b s = 0
  · have hd : (kindI b s != 0) = false := by simpa using h
    obtain ⟨hck, hs0, hs2⟩ := kind_ok h
    have hr := (check_ok hck).1
    have hn := right_n hr
    have hsB := Lib.hid hn.2.2.1
    have hl0 : 0 ≤ b.n - allI b.s := by omega
    have hl1 : b.n - allI b.s ≤ 50 := by have := allI_range hn.2.2.1; omega
    by_cases hl : b.n - allI b.s = 0
    · have hdl : (b.n - allI b.s == 0) = true := by simpa using hl
      rw [show nextR b s = (⟨0, 0⟩, 5) by unfold nextR; rw [if_neg (by omega), if_pos hl]]
      clear h hl hn
      go_enter Try.func39, Try.ntmps39
      go_wp2_with fail
      refine (kind3_c b _ _).mono ?_
      rintro e w1 ⟨rfl, hb1⟩
      obtain ⟨hc1, hf1⟩ := bcell hb1
      have hs1 := hb1.size
      simp only [World.size_alloc] at hs1
      have hz1 : w.heap.size < w1.heap.size := by omega
      have hy1 := (hb1.block (w.heap.size + 1) (by simp)).trans HY.out
      have hb1' : Below (w.heap.size + 1) (w.alloc (.cells (btC b) 34)) w1 := by
        have := (below_alloc (w.alloc (.cells (btC b) 34)) (.cells #[.int .i64 0, .int .i64 0] 53)).trans (hb1.mono (by simp))
        simpa using this
      go_wp2_with fail
      refine wp_region_grown (by kernel_rfl) (by kernel_rfl) fun hcg => ?_
      repeat (go_big_quiet_step (first | (go_at_call 90; exact Calls.grown (all3_c _ _ hsB.out))))
      refine wpQuiet_nil ?_
      intro _ hw'
      obtain ⟨g, hw''⟩ := hw'
      subst hw''
      have hgs := g.b.size
      have hB := below_then (below_alloc w (.cells (btC b) 34)) (below_then (below_alloc _ _) (below_then hb1 g.b))
      have hyg := (g.b.block (w.heap.size + 1) (by omega)).trans hy1
      have hBg : Below (w.heap.size + 1) (w.alloc (.cells (btC b) 34)) g.val := hb1'.trans (g.b.mono (by omega))
      clear hcg
      have y0 := Joins.cell_of_block hyg 0
      have y1 := Joins.cell_of_block hyg 1
      have g0 := Joins.unfrozen_of_block hyg 0
      have g1 := Joins.unfrozen_of_block hyg 1
      have hp := put2 (.int .i64 0) (.int .i64 0) hyg
      have HP := Lib.hid hp
      clear hp
      go_wp2_with fail
      refine bodyPost_ret (v := .tuple #[rtV ⟨0, 0⟩, .int .i64 5]) ?_ rfl ⟨rfl, ?_⟩
      · simp [results, Try.results39, go_sem, HP.out.1, HP.out.2]
      · exact (hB.setCell (by simp) _).setCell (by simp) _
    · have hdl : (b.n - allI b.s == 0) = false := by simpa using hl
      rw [show nextR b s = (ratioI (momI (weightsL b s) (b.s.get s)) ((b.n - allI b.s) * totalI (weightsL b s)), 0) by unfold nextR; rw [if_neg (by omega), if_neg hl]]
      clear h
      have htp := total_pos hck s
      have hwn := weights_nonneg b s
      have hsg := seen_get hr s
      have hmb := fun j hj => momP_bound (l := weightsL b s) (d := b.s.get s) hwn hsg j hj
      have hm0 := mom_nonneg hr s (d := b.s.get s) (Int.le_refl _)
      have hwl := weights_len b s
      obtain ⟨n, rfl⟩ := Int.eq_ofNat_of_zero_le hs0
      have hn3 : n < 3 := by omega
      have hlen51 : (weightsL b n).length ≤ 51 := by omega
      have hm1 : momI (weightsL b n) (b.s.get n) ≤ 50 * 495918532948104 := by
        have := (hmb (weightsL b n).length hlen51).2
        have e := totalI_eq (weightsL b n)
        unfold momP at this
        unfold momI
        omega
      have ht1 := Int.mul_le_mul (a := b.n - allI b.s) (b := totalI (weightsL b n)) (c := 50) (d := 495918532948104) hl1 htp.2 (by omega) (by omega)
      have ht0 : 0 < (b.n - allI b.s) * totalI (weightsL b n) := Int.mul_pos (by omega) (by omega)
      have HC := Lib.hid hck
      have HW := Lib.hid hwn
      have HL := Lib.hid hwl
      have HM := Lib.hid hmb
      clear hck hwn hwl hmb hr hn hl
      go_enter Try.func39, Try.ntmps39
      go_wp2_with fail
      refine (kind3_c b _ _).mono ?_
      rintro e w1 ⟨rfl, hb1⟩
      obtain ⟨hc1, hf1⟩ := bcell hb1
      have hs1 := hb1.size
      simp only [World.size_alloc] at hs1
      have hz1 : w.heap.size < w1.heap.size := by omega
      have hy1 := (hb1.block (w.heap.size + 1) (by simp)).trans HY.out
      have hb1' : Below (w.heap.size + 1) (w.alloc (.cells (btC b) 34)) w1 := by
        have := (below_alloc (w.alloc (.cells (btC b) 34)) (.cells #[.int .i64 0, .int .i64 0] 53)).trans (hb1.mono (by simp))
        simpa using this
      go_wp2_with fail
      refine wp_region_grown (by kernel_rfl) (by kernel_rfl) fun hcg => ?_
      repeat (go_big_quiet_step (first | (go_at_call 90; exact Calls.grown (all3_c _ _ hsB.out))))
      refine wpQuiet_nil ?_
      intro _ hw'
      obtain ⟨g, hw''⟩ := hw'
      subst hw''
      have hgs := g.b.size
      have hB := below_then (below_alloc w (.cells (btC b) 34)) (below_then (below_alloc _ _) (below_then hb1 g.b))
      have hyg := (g.b.block (w.heap.size + 1) (by omega)).trans hy1
      have hBg : Below (w.heap.size + 1) (w.alloc (.cells (btC b) 34)) g.val := hb1'.trans (g.b.mono (by omega))
      clear hcg
      have hzg : w.heap.size < g.val.heap.size := by omega
      obtain ⟨hcg, hfg⟩ := bcell g.b
      go_wp2_with fail
      refine (weights3_i b n _ HC.out hn3).mono ?_
      rintro e w2 ⟨v, rfl, hv, hb2⟩
      have hBw2 := hBg.trans (hb2.mono (by omega))
      have hB2 := below_then hB hb2
      have hs2 := hb2.size
      have hy2 := (hb2.block (w.heap.size + 1) (by omega)).trans hyg
      obtain ⟨A, cap, rfl, hcap, hnn, hat⟩ := hv.open_
      have H := Lib.hid hat
      clear hat hc1 hf1 hcg hfg
      go_wp2_with fail
      go_loopw [9, 10] (fun m i wr => ∃ j : Nat, j ≤ (weightsL b n).length ∧ i = .int .i64 j ∧ m = .int .i64 (momP (weightsL b n) (b.s.get n) j) ∧ Below w2.heap.size w2 wr) (fun _ i _ => (weightsL b n).length - (intOf i).toNat)
      case atStart => exact ⟨0, Nat.zero_le _, rfl, rfl, Below.refl _ _⟩
      case round =>
        obtain ⟨j, hj, rfl, rfl, hbw⟩ := hrel
        have hws := hbw.size
        by_cases hlt : j < (weightsL b n).length
        · obtain ⟨bb, off, x, rfl, hbb, hx0, c0⟩ := H.out j hlt
          have c0 := (hbw.cell (p := ⟨bb, off + j, none⟩) hbb).trans c0
          have hseen := ((bt_cells (b := b) (t := 34) rfl (by omega) (hBw2.trans (hbw.mono (by omega)))).2 n hn3).1
          have hz5 : w.heap.size < wr.heap.size := by omega
          have hz6 : bb < wr.heap.size := by omega
          have hxe : (weightsL b n).getD j 0 = x := by rw [List.getD_eq_getElem?_getD, hx0]; rfl
          have hx1 : 0 ≤ x := HW.out x (List.mem_of_getElem? hx0)
          have hx2 : x ≤ 495918532948104 := by
            have e := totalI_eq (weightsL b n)
            have := spanP_le (s := ⟨0, (weightsL b n).length⟩) HW.out (j := j + 1) (by omega)
            have hin : inSp (weightsL b n) ⟨0, (weightsL b n).length⟩ j = x := by unfold inSp; rw [if_pos (by simp only; omega), hxe]
            rw [sumI, hin] at this
            have h2 := (spanP_le (s := ⟨0, (weightsL b n).length⟩) HW.out (j := j) (by omega)).1
            omega
          have hstep : Hid (momP (weightsL b n) (b.s.get n) j + ((j : Int) - b.s.get n) * x = momP (weightsL b n) (b.s.get n) (j + 1)) := by
            show momP (weightsL b n) (b.s.get n) j + ((j : Int) - b.s.get n) * x = _
            unfold momP; rw [sumI, hxe]
          have hq := HM.out j (by omega)
          have hq3 : sumI (fun i => (weightsL b n).getD i 0) j ≤ 495918532948104 := by
            have e := totalI_eq (weightsL b n)
            have := sumI_mono (f := fun i => (weightsL b n).getD i 0) (n := j) (m := (weightsL b n).length) (by omega) (fun i _ => getD_nonneg HW.out i)
            omega
          have a1 : ((j : Int) - b.s.get n) * x ≤ 50 * x := Int.mul_le_mul_of_nonneg_right (by omega) hx1
          have a2 : (-50) * x ≤ ((j : Int) - b.s.get n) * x := Int.mul_le_mul_of_nonneg_right (by omega) hx1
          have q1 : -(24795926647405200) ≤ momP (weightsL b n) (b.s.get n) j := by omega
          have q2 : momP (weightsL b n) (b.s.get n) j ≤ 24795926647405200 := by omega
          have q3 : -(24795926647405200) ≤ ((j : Int) - b.s.get n) * x := by omega
          have q4 : ((j : Int) - b.s.get n) * x ≤ 24795926647405200 := by omega
          clear hx0 hxe hq hq3 a1 a2
          go_wp2
          refine wp_region_grown (by kernel_rfl) (by kernel_rfl) fun hcg => ?_
          repeat (go_big_quiet_step (fail))
          refine wpQuiet_nil ?_
          intro _ hw'
          obtain ⟨g2, hw''⟩ := hw'
          subst hw''
          clear hcg
          go_wp2
          go_roundw
          case rel => exact ⟨j + 1, by omega, by go_num, by rw [hstep.out], hbw.trans (g2.b.mono (by omega))⟩
          case measure => simp [intOf]; omega
        · obtain rfl : j = (weightsL b n).length := by omega
          rw [show momP (weightsL b n) (b.s.get n) (weightsL b n).length = momI (weightsL b n) (b.s.get n) from rfl]
          go_wp2_with fail
          refine (total3_c _ _ _ (hv.later hbw) hlen51 HW.out htp.2).mono ?_
          rintro e w3 ⟨rfl, hb3⟩
          go_wp2_with fail
          refine (ratio3_c _ _ _ hm0 ht0 (by omega) (by omega)).mono ?_
          rintro e w4 ⟨rfl, hb4⟩
          have hs3 := hb3.size
          have hy4 := (hb4.block (w.heap.size + 1) (by omega)).trans ((hb3.block (w.heap.size + 1) (by omega)).trans ((hbw.block (w.heap.size + 1) (by omega)).trans hy2))
          have hB4 := below_then hB2 (below_then hbw (below_then hb3 hb4))
          have y0 := Joins.cell_of_block hy4 0
          have y1 := Joins.cell_of_block hy4 1
          have g0 := Joins.unfrozen_of_block hy4 0
          have g1 := Joins.unfrozen_of_block hy4 1
          have hp := put2 (.int .i64 (ratioI (momI (weightsL b n) (b.s.get n)) ((b.n - allI b.s) * totalI (weightsL b n))).num) (.int .i64 (ratioI (momI (weightsL b n) (b.s.get n)) ((b.n - allI b.s) * totalI (weightsL b n))).den) hy4
          have HP := Lib.hid hp
          clear hp
          go_wp2_with fail
          refine bodyPost_ret (v := .tuple #[rtV (ratioI (momI (weightsL b n) (b.s.get n)) ((b.n - allI b.s) * totalI (weightsL b n))), .int .i64 0]) ?_ rfl ⟨rfl, ?_⟩
          · simp [results, Try.results39, go_sem, HP.out.1, HP.out.2]
          · exact (hB4.setCell (by simp) _).setCell (by simp) _
  · have hd : (kindI b s != 0) = true := by simpa using h
    rw [show nextR b s = (⟨0, 0⟩, kindI b s) by unfold nextR; rw [if_pos h]]
    clear h
    go_enter Try.func39, Try.ntmps39
    go_wp2_with fail
    refine (kind3_c b _ _).mono ?_
    rintro e w1 ⟨rfl, hb1⟩
    have hB := below_then (below_alloc w (.cells (btC b) 34)) (below_then (below_alloc _ _) hb1)
    have hy := (hb1.block (w.heap.size + 1) (by simp)).trans HY.out
    have y0 := Joins.cell_of_block hy 0
    have y1 := Joins.cell_of_block hy 1
    have g0 := Joins.unfrozen_of_block hy 0
    have g1 := Joins.unfrozen_of_block hy 1
    have hp := put2 (.int .i64 0) (.int .i64 0) hy
    have HP := Lib.hid hp
    clear hp
    go_wp2_with fail
    refine bodyPost_ret (v := .tuple #[rtV ⟨0, 0⟩, .int .i64 (kindI b s)]) ?_ rfl ⟨rfl, ?_⟩
    · simp [results, Try.results39, go_sem, HP.out.1, HP.out.2]
    · exact (hB.setCell (by simp) _).setCell (by simp) _
end Go.Proofs.Ytaaeipjnhjgjdaa
/- Beliefs, and lists that are the same, by the reference. -/
namespace Go.Proofs.Ytaaeipjnhjgjdaa
open Go.RowKit

theorem box3 (w : World) (o o2 : Obj) (cs : Array Value) (t : TypeId) : (((w.alloc o).alloc o2).alloc (.cells cs t)).heap[w.heap.size + 1 + 1]? = some (.cells cs t) := by
  have := heap_alloc_new ((w.alloc o).alloc o2) (.cells cs t)
  rw [World.size_alloc, World.size_alloc] at this
  exact this

theorem Believed3_c (b : Bt) (s : Int) (p : Sp) (w : World) :
    Calls Try.prog 35 #[btV b, .int .i64 s, spV p] w fun e w' => e = .returned (.tuple #[rtV (believedR b s p).1, .int .i64 (believedR b s p).2]) ∧ Below w.heap.size w w' := by
  have hy0 := box3 w (.cells (btC b) 34) (.cells #[.int .i64 p.lo, .int .i64 p.hi] 31) #[.int .i64 0, .int .i64 0] 53
  unfold btC at hy0
  have HY := Lib.hid hy0
  clear hy0
  unfold btV spV
  by_cases h : kindI b s = 0
  · have hd : (kindI b s != 0) = false := by simpa using h
    obtain ⟨hck, hs0, hs2⟩ := kind_ok h
    by_cases hp : p.hi < p.lo
    · rw [show believedR b s p = (⟨0, 0⟩, 1) by unfold believedR; rw [if_neg (by omega), if_pos hp]]
      clear h
      go_enter Try.func35, Try.ntmps35
      go_wp2_with fail
      refine (kind3_c b _ _).mono ?_
      rintro e w1 ⟨rfl, hb1⟩
      obtain ⟨hc1, hf1⟩ := bcell hb1
      have hs1 := hb1.size
      simp only [World.size_alloc] at hs1
      have hz1 : w.heap.size < w1.heap.size := by omega
      have hz1' : w.heap.size + 1 < w1.heap.size := by omega
      have hy1 := (hb1.block (w.heap.size + 1 + 1) (by simp)).trans HY.out
      have hB1 := below_then (below_alloc w (.cells (btC b) 34)) (below_then (below_alloc _ _) (below_then (below_alloc _ _) hb1))
      have y0 := Joins.cell_of_block hy1 0
      have y1 := Joins.cell_of_block hy1 1
      have g0 := Joins.unfrozen_of_block hy1 0
      have g1 := Joins.unfrozen_of_block hy1 1
      have hp1 := put2 (.int .i64 0) (.int .i64 0) hy1
      have HP1 := Lib.hid hp1
      clear hp1
      go_wp2_with fail
      refine bodyPost_ret (v := .tuple #[rtV (⟨0, 0⟩), .int .i64 (1)]) ?_ rfl ⟨rfl, ?_⟩
      · simp [results, Try.results35, go_sem, HP1.out.1, HP1.out.2]
      · exact (hB1.setCell (by simp; omega) _).setCell (by simp; omega) _
    · rw [show believedR b s p = (ratioI (spanI (weightsL b s) p) (totalI (weightsL b s)), 0) by unfold believedR; rw [if_neg (by omega), if_neg hp]]
      clear h
      have htp := total_pos hck s
      have hwn := weights_nonneg b s
      have hn := right_n (check_ok hck).1
      have hwl := weights_len b s
      have hsp : 0 ≤ spanI (weightsL b s) p ∧ spanI (weightsL b s) p ≤ 495918532948104 := by
        have := spanP_le (s := p) hwn (Nat.le_refl (weightsL b s).length)
        rw [← spanI_eq, ← totalI_eq] at this
        omega
      obtain ⟨n, rfl⟩ := Int.eq_ofNat_of_zero_le hs0
      have hn3 : n < 3 := by omega
      have hlen51 : (weightsL b n).length ≤ 51 := by omega
      have HC := Lib.hid hck
      have HW := Lib.hid hwn
      clear hck hwn hwl hn
      go_enter Try.func35, Try.ntmps35
      go_wp2_with fail
      refine (kind3_c b _ _).mono ?_
      rintro e w1 ⟨rfl, hb1⟩
      obtain ⟨hc1, hf1⟩ := bcell hb1
      have hs1 := hb1.size
      simp only [World.size_alloc] at hs1
      have hz1 : w.heap.size < w1.heap.size := by omega
      have hz1' : w.heap.size + 1 < w1.heap.size := by omega
      have hy1 := (hb1.block (w.heap.size + 1 + 1) (by simp)).trans HY.out
      have hB1 := below_then (below_alloc w (.cells (btC b) 34)) (below_then (below_alloc _ _) (below_then (below_alloc _ _) hb1))
      have y0 := Joins.cell_of_block hy1 0
      have y1 := Joins.cell_of_block hy1 1
      have g0 := Joins.unfrozen_of_block hy1 0
      have g1 := Joins.unfrozen_of_block hy1 1
      have hp1 := put2 (.int .i64 0) (.int .i64 0) hy1
      have HP1 := Lib.hid hp1
      clear hp1
      go_wp2_with fail
      refine (weights3_i b n _ HC.out hn3).mono ?_
      rintro e w2 ⟨v, rfl, hv, hb2⟩
      obtain ⟨hc2, hf2⟩ := bcell hb2
      have hs2 := hb2.size
      have hz2 : w.heap.size + 1 < w1.heap.size := by omega
      have hz3 : w.heap.size + 1 < w2.heap.size := by omega
      go_wp2_with fail
      refine (weight3_c _ p _ _ hv hlen51 HW.out htp.2).mono ?_
      rintro e w3 ⟨rfl, hb3⟩
      go_wp2_with fail
      refine (total3_c _ _ _ (hv.later hb3) hlen51 HW.out htp.2).mono ?_
      rintro e w4 ⟨rfl, hb4⟩
      go_wp2_with fail
      refine (ratio3_c _ _ _ hsp.1 (by omega) (by omega) (by omega)).mono ?_
      rintro e w5 ⟨rfl, hb5⟩
      have hb25 := below_then hb2 (below_then hb3 (below_then hb4 hb5))
      have hB5 := below_then hB1 hb25
      have hy5 := (hb25.block (w.heap.size + 1 + 1) (by omega)).trans hy1
      clear hc1 hf1 hc2 hf2
      have y0 := Joins.cell_of_block hy5 0
      have y1 := Joins.cell_of_block hy5 1
      have g0 := Joins.unfrozen_of_block hy5 0
      have g1 := Joins.unfrozen_of_block hy5 1
      have hp1 := put2 (.int .i64 (ratioI (spanI (weightsL b n) p) (totalI (weightsL b n))).num) (.int .i64 (ratioI (spanI (weightsL b n) p) (totalI (weightsL b n))).den) hy5
      have HP1 := Lib.hid hp1
      clear hp1
      go_wp2_with fail
      refine bodyPost_ret (v := .tuple #[rtV (ratioI (spanI (weightsL b n) p) (totalI (weightsL b n))), .int .i64 (0)]) ?_ rfl ⟨rfl, ?_⟩
      · simp [results, Try.results35, go_sem, HP1.out.1, HP1.out.2]
      · exact (hB5.setCell (by simp; omega) _).setCell (by simp; omega) _
  · have hd : (kindI b s != 0) = true := by simpa using h
    rw [show believedR b s p = (⟨0, 0⟩, kindI b s) by unfold believedR; rw [if_pos h]]
    clear h
    go_enter Try.func35, Try.ntmps35
    go_wp2_with fail
    refine (kind3_c b _ _).mono ?_
    rintro e w1 ⟨rfl, hb1⟩
    obtain ⟨hc1, hf1⟩ := bcell hb1
    have hs1 := hb1.size
    simp only [World.size_alloc] at hs1
    have hz1 : w.heap.size < w1.heap.size := by omega
    have hz1' : w.heap.size + 1 < w1.heap.size := by omega
    have hy1 := (hb1.block (w.heap.size + 1 + 1) (by simp)).trans HY.out
    have hB1 := below_then (below_alloc w (.cells (btC b) 34)) (below_then (below_alloc _ _) (below_then (below_alloc _ _) hb1))
    have y0 := Joins.cell_of_block hy1 0
    have y1 := Joins.cell_of_block hy1 1
    have g0 := Joins.unfrozen_of_block hy1 0
    have g1 := Joins.unfrozen_of_block hy1 1
    have hp1 := put2 (.int .i64 0) (.int .i64 0) hy1
    have HP1 := Lib.hid hp1
    clear hp1
    go_wp2_with fail
    refine bodyPost_ret (v := .tuple #[rtV (⟨0, 0⟩), .int .i64 (kindI b s)]) ?_ rfl ⟨rfl, ?_⟩
    · simp [results, Try.results35, go_sem, HP1.out.1, HP1.out.2]
    · exact (hB1.setCell (by simp; omega) _).setCell (by simp; omega) _
end Go.Proofs.Ytaaeipjnhjgjdaa
/- Lists that are the same, by the reference for samples. -/
namespace Go.Proofs.Ytaaeipjnhjgjdaa
open Go.RowKit

/-- Two lists have the same length, and f finds the same at each place. -/
def sameBy {α : Type} (f : α → α → Bool) : List α → List α → Bool
  | [], [] => true
  | x :: l, y :: m => f x y && sameBy f l m
  | _, _ => false
theorem sameBy_len {α : Type} {f : α → α → Bool} : ∀ {l m : List α}, l.length ≠ m.length → sameBy f l m = false
  | [], [], h => absurd rfl h
  | [], _ :: _, _ => rfl
  | _ :: _, [], _ => rfl
  | x :: l, y :: m, h => by
    rw [sameBy, sameBy_len (l := l) (m := m) (by simpa using h), Bool.and_false]
theorem sameBy_no {α : Type} {f : α → α → Bool} : ∀ {l m : List α} {j : Nat} {x y : α}, l[j]? = some x → m[j]? = some y → f x y = false → sameBy f l m = false
  | _ :: l, _ :: m, 0, x, y, hx, hy, h => by
    simp only [List.getElem?_cons_zero, Option.some.injEq] at hx hy
    subst hx; subst hy
    rw [sameBy, h, Bool.false_and]
  | _ :: l, _ :: m, j + 1, x, y, hx, hy, h => by
    rw [sameBy, sameBy_no (l := l) (m := m) (j := j) (by simpa using hx) (by simpa using hy) h, Bool.and_false]
  | [], m, j, x, y, hx, _, _ => by simp at hx
  | _ :: _, [], j, x, y, _, hy, _ => by simp at hy
theorem sameBy_yes {α : Type} {f : α → α → Bool} : ∀ {l m : List α}, l.length = m.length → (∀ (j : Nat) (x y : α), l[j]? = some x → m[j]? = some y → f x y = true) → sameBy f l m = true
  | [], [], _, _ => rfl
  | x :: l, y :: m, h, hf => by
    rw [sameBy, hf 0 x y rfl rfl, sameBy_yes (l := l) (m := m) (by simpa using h) fun j x y hx hy => hf (j + 1) x y (by simpa using hx) (by simpa using hy), Bool.true_and]
theorem sameBy_eq {α : Type} {f : α → α → Bool} (hf : ∀ x y, f x y = true → x = y) : ∀ {l m : List α}, sameBy f l m = true → l = m
  | [], [], _ => rfl
  | x :: l, y :: m, h => by
    simp only [sameBy, Bool.and_eq_true] at h
    rw [hf x y h.1, sameBy_eq hf h.2]
  | [], _ :: _, h => by cases h
  | _ :: _, [], h => by cases h
theorem sameBy_refl {α : Type} {f : α → α → Bool} (hf : ∀ x, f x x = true) : ∀ l : List α, sameBy f l l = true
  | [] => rfl
  | x :: l => by rw [sameBy, hf x, sameBy_refl hf l]; rfl
def eqI (x y : Int) : Bool := x == y
def eqK (x y : K3) : Bool := x.a == y.a && x.b == y.b && x.c == y.c
def eqS (x y : Sp) : Bool := x.lo == y.lo && x.hi == y.hi
theorem eqK_iff {x y : K3} (h : eqK x y = true) : x = y := by
  obtain ⟨a, b, c⟩ := x; obtain ⟨d, e, f⟩ := y
  simp only [eqK, Bool.and_eq_true, beq_iff_eq] at h
  obtain ⟨⟨rfl, rfl⟩, rfl⟩ := h; rfl
theorem eqS_iff {x y : Sp} (h : eqS x y = true) : x = y := by
  obtain ⟨a, b⟩ := x; obtain ⟨d, e⟩ := y
  simp only [eqS, Bool.and_eq_true, beq_iff_eq] at h
  obtain ⟨rfl, rfl⟩ := h; rfl
def spC (s : Sp) : List Value := [.int .i64 s.lo, .int .i64 s.hi]
theorem spC_len (s : Sp) : (spC s).length = 2 := rfl
@[reducible] def Sps (w : World) (B : Nat) (v : Value) (l : List Sp) : Prop := Sl spC 2 w B v l
theorem K3s.open_ {w : World} {B : Nat} {v : Value} {l : List K3} (h : K3s w B v l) :
    ∃ (A : Option Addr) (cap : Nat), v = .slice A l.length cap ∧ l.length ≤ cap ∧ l.length ≤ 140737488355328 ∧
      ∀ k, k < l.length → ∃ b off x, A = some ⟨b, off, none⟩ ∧ b < B ∧ l[k]? = some x ∧ w.cell? ⟨b, off + k * 3, none⟩ = some (.int .i64 x.a) ∧ w.cell? ⟨b, off + k * 3 + 1, none⟩ = some (.int .i64 x.b) ∧ w.cell? ⟨b, off + k * 3 + 2, none⟩ = some (.int .i64 x.c) := by
  obtain ⟨A, cap, e, h1, h2, h3⟩ := h
  refine ⟨A, cap, e, h1, h2, fun k hk => ?_⟩
  obtain ⟨b, off, e2, hb, hc⟩ := h3 (by omega)
  have hx := List.getElem?_eq_getElem hk
  exact ⟨b, off, l[k], e2, hb, hx, hc k _ hx 0 _ rfl, hc k _ hx 1 _ rfl, hc k _ hx 2 _ rfl⟩
theorem Sps.open_ {w : World} {B : Nat} {v : Value} {l : List Sp} (h : Sps w B v l) :
    ∃ (A : Option Addr) (cap : Nat), v = .slice A l.length cap ∧ l.length ≤ cap ∧ l.length ≤ 140737488355328 ∧
      ∀ k, k < l.length → ∃ b off x, A = some ⟨b, off, none⟩ ∧ b < B ∧ l[k]? = some x ∧ w.cell? ⟨b, off + k * 2, none⟩ = some (.int .i64 x.lo) ∧ w.cell? ⟨b, off + k * 2 + 1, none⟩ = some (.int .i64 x.hi) := by
  obtain ⟨A, cap, e, h1, h2, h3⟩ := h
  refine ⟨A, cap, e, h1, h2, fun k hk => ?_⟩
  obtain ⟨b, off, e2, hb, hc⟩ := h3 (by omega)
  have hx := List.getElem?_eq_getElem hk
  exact ⟨b, off, l[k], e2, hb, hx, hc k _ hx 0 _ rfl, hc k _ hx 1 _ rfl⟩

theorem sameI3_c (l m : List Int) (v u : Value) (w : World) (hv : Ints w w.heap.size v l) (hu : Ints w w.heap.size u m) :
    Calls Try.prog 40 #[v, u] w fun e w' => e = .returned (.bool (sameBy eqI l m)) ∧ Below w.heap.size w w' := by
  obtain ⟨A, cap, rfl, hcap, hn, hat⟩ := hv.open_
  obtain ⟨A2, cap2, rfl, hcap2, hn2, hat2⟩ := hu.open_
  have H := Lib.hid hat
  have H2 := Lib.hid hat2
  clear hat hat2
  by_cases hlen : l.length = m.length
  · have hd : ((l.length : Int) != m.length) = false := by rw [hlen]; simp
    have HLE := Lib.hid hlen
    have hle1 : l.length ≤ m.length := by omega
    clear hlen
    go_enter Try.func40, Try.ntmps40
    go_wp2
    go_loopw [5] (fun i wr => ∃ j : Nat, j ≤ l.length ∧ i = .int .i64 j ∧ Hid (∀ (k : Nat) (x y : Int), k < j → l[k]? = some x → m[k]? = some y → eqI x y = true) ∧ Below w.heap.size w wr) (fun i _ => l.length - (intOf i).toNat)
    case atStart => exact ⟨0, Nat.zero_le _, rfl, fun _ _ _ h => absurd h (by omega), Below.refl _ _⟩
    case round =>
      obtain ⟨j, hj, rfl, hq, hbw⟩ := hrel
      have hws := hbw.size
      by_cases hlt : j < l.length
      · obtain ⟨b1, off, x, rfl, hb1, hx0, c0⟩ := H.out j hlt
        obtain ⟨b2, off2, y, rfl, hb2, hy0, d0⟩ := H2.out j (by omega)
        have c0 := (hbw.cell (p := ⟨b1, off + j, none⟩) hb1).trans c0
        have d0 := (hbw.cell (p := ⟨b2, off2 + j, none⟩) hb2).trans d0
        have hz1 : b1 < wr.heap.size := by omega
        have hz2 : b2 < wr.heap.size := by omega
        have hx := Lib.hid hx0
        have hy := Lib.hid hy0
        clear hx0 hy0
        rcases Bool.eq_false_or_eq_true (eqI x y) with hf | hf
        · have hF := Lib.hid hf
          have hd2 : (x != y) = false := by have := hf; unfold eqI at this; rw [bne, this]; rfl
          clear hf
          go_wp2
          refine wp_region_grown (by kernel_rfl) (by kernel_rfl) fun hcg => ?_
          repeat (go_big_quiet_step (fail))
          refine wpQuiet_nil ?_
          intro _ hw'
          obtain ⟨g, hw''⟩ := hw'
          subst hw''
          have hB := hbw.trans (g.b.mono (by omega))
          go_wp2
          go_roundw
          case rel => exact ⟨j + 1, by omega, by go_num, fun k a b hk ha hb => if e : k = j then by subst e; rw [hx.out] at ha; rw [hy.out] at hb; cases ha; cases hb; exact hF.out else hq.out k a b (by omega) ha hb, hB⟩
          case measure => simp [intOf]; omega
        · have hF := Lib.hid hf
          have hd2 : (x != y) = true := by have := hf; unfold eqI at this; rw [bne, this]; rfl
          clear hf
          go_wp2
          refine wp_region_grown (by kernel_rfl) (by kernel_rfl) fun hcg => ?_
          repeat (go_big_quiet_step (fail))
          refine wpQuiet_nil ?_
          intro _ hw'
          obtain ⟨g, hw''⟩ := hw'
          subst hw''
          have hB := hbw.trans (g.b.mono (by omega))
          go_wp2
          go_ret
          exact ⟨ret_bool (by rw [sameBy_no hx.out hy.out hF.out]), hB⟩
      · obtain rfl : j = l.length := by omega
        go_wp2
        go_ret
        exact ⟨ret_bool (by rw [sameBy_yes HLE.out fun k x y hx hy => hq.out k x y (List.getElem?_eq_some_iff.1 hx).1 hx hy]), hbw⟩
  · have hd : ((l.length : Int) != m.length) = true := by simp; omega
    have HLE := Lib.hid hlen
    clear hlen
    go_enter Try.func40, Try.ntmps40
    go_wp2
    go_ret
    exact ⟨ret_bool (by rw [sameBy_len HLE.out]), Below.refl _ _⟩

theorem sameK3_c (l m : List K3) (v u : Value) (w : World) (hv : K3s w w.heap.size v l) (hu : K3s w w.heap.size u m) :
    Calls Try.prog 29 #[v, u] w fun e w' => e = .returned (.bool (sameBy eqK l m)) ∧ Below w.heap.size w w' := by
  obtain ⟨A, cap, rfl, hcap, hn, hat⟩ := hv.open_
  obtain ⟨A2, cap2, rfl, hcap2, hn2, hat2⟩ := hu.open_
  have H := Lib.hid hat
  have H2 := Lib.hid hat2
  clear hat hat2
  have heq := Try.neK3
  by_cases hlen : l.length = m.length
  · have hd : ((l.length : Int) != m.length) = false := by rw [hlen]; simp
    have HLE := Lib.hid hlen
    have hle1 : l.length ≤ m.length := by omega
    clear hlen
    go_enter Try.func29, Try.ntmps29
    go_wp2
    go_loopw [5] (fun i wr => ∃ j : Nat, j ≤ l.length ∧ i = .int .i64 j ∧ Hid (∀ (k : Nat) (x y : K3), k < j → l[k]? = some x → m[k]? = some y → eqK x y = true) ∧ Below w.heap.size w wr) (fun i _ => l.length - (intOf i).toNat)
    case atStart => exact ⟨0, Nat.zero_le _, rfl, fun _ _ _ h => absurd h (by omega), Below.refl _ _⟩
    case round =>
      obtain ⟨j, hj, rfl, hq, hbw⟩ := hrel
      have hws := hbw.size
      by_cases hlt : j < l.length
      · obtain ⟨b1, off, x, rfl, hb1, hx0, c0, c1, c2⟩ := H.out j hlt
        obtain ⟨b2, off2, y, rfl, hb2, hy0, d0, d1, d2⟩ := H2.out j (by omega)
        have c0 := (hbw.cell (p := ⟨b1, off + j * 3, none⟩) hb1).trans c0
        have d0 := (hbw.cell (p := ⟨b2, off2 + j * 3, none⟩) hb2).trans d0
        have c1 := (hbw.cell (p := ⟨b1, off + j * 3 + 1, none⟩) hb1).trans c1
        have d1 := (hbw.cell (p := ⟨b2, off2 + j * 3 + 1, none⟩) hb2).trans d1
        have c2 := (hbw.cell (p := ⟨b1, off + j * 3 + 2, none⟩) hb1).trans c2
        have d2 := (hbw.cell (p := ⟨b2, off2 + j * 3 + 2, none⟩) hb2).trans d2
        have hz1 : b1 < wr.heap.size := by omega
        have hz2 : b2 < wr.heap.size := by omega
        have hx := Lib.hid hx0
        have hy := Lib.hid hy0
        clear hx0 hy0
        rcases Bool.eq_false_or_eq_true (eqK x y) with hf | hf
        · have hF := Lib.hid hf
          have hd2 : (!(x.a == y.a && x.b == y.b && x.c == y.c)) = false := by have := hf; simp only [eqK] at this; simp [this]
          clear hf
          go_wp2
          refine wp_region_grown (by kernel_rfl) (by kernel_rfl) fun hcg => ?_
          repeat (go_big_quiet_step (fail))
          refine wpQuiet_nil ?_
          intro _ hw'
          obtain ⟨g, hw''⟩ := hw'
          subst hw''
          have hB := hbw.trans (g.b.mono (by omega))
          go_wp2
          go_roundw
          case rel => exact ⟨j + 1, by omega, by go_num, fun k a b hk ha hb => if e : k = j then by subst e; rw [hx.out] at ha; rw [hy.out] at hb; cases ha; cases hb; exact hF.out else hq.out k a b (by omega) ha hb, hB⟩
          case measure => simp [intOf]; omega
        · have hF := Lib.hid hf
          have hd2 : (!(x.a == y.a && x.b == y.b && x.c == y.c)) = true := by have := hf; simp only [eqK] at this; simp [this]
          clear hf
          go_wp2
          refine wp_region_grown (by kernel_rfl) (by kernel_rfl) fun hcg => ?_
          repeat (go_big_quiet_step (fail))
          refine wpQuiet_nil ?_
          intro _ hw'
          obtain ⟨g, hw''⟩ := hw'
          subst hw''
          have hB := hbw.trans (g.b.mono (by omega))
          go_wp2
          go_ret
          exact ⟨ret_bool (by rw [sameBy_no hx.out hy.out hF.out]), hB⟩
      · obtain rfl : j = l.length := by omega
        go_wp2
        go_ret
        exact ⟨ret_bool (by rw [sameBy_yes HLE.out fun k x y hx hy => hq.out k x y (List.getElem?_eq_some_iff.1 hx).1 hx hy]), hbw⟩
  · have hd : ((l.length : Int) != m.length) = true := by simp; omega
    have HLE := Lib.hid hlen
    clear hlen
    go_enter Try.func29, Try.ntmps29
    go_wp2
    go_ret
    exact ⟨ret_bool (by rw [sameBy_len HLE.out]), Below.refl _ _⟩

theorem sameS3_c (l m : List Sp) (v u : Value) (w : World) (hv : Sps w w.heap.size v l) (hu : Sps w w.heap.size u m) :
    Calls Try.prog 67 #[v, u] w fun e w' => e = .returned (.bool (sameBy eqS l m)) ∧ Below w.heap.size w w' := by
  obtain ⟨A, cap, rfl, hcap, hn, hat⟩ := hv.open_
  obtain ⟨A2, cap2, rfl, hcap2, hn2, hat2⟩ := hu.open_
  have H := Lib.hid hat
  have H2 := Lib.hid hat2
  clear hat hat2
  have heq := Try.neSp
  by_cases hlen : l.length = m.length
  · have hd : ((l.length : Int) != m.length) = false := by rw [hlen]; simp
    have HLE := Lib.hid hlen
    have hle1 : l.length ≤ m.length := by omega
    clear hlen
    go_enter Try.func67, Try.ntmps67
    go_wp2
    go_loopw [5] (fun i wr => ∃ j : Nat, j ≤ l.length ∧ i = .int .i64 j ∧ Hid (∀ (k : Nat) (x y : Sp), k < j → l[k]? = some x → m[k]? = some y → eqS x y = true) ∧ Below w.heap.size w wr) (fun i _ => l.length - (intOf i).toNat)
    case atStart => exact ⟨0, Nat.zero_le _, rfl, fun _ _ _ h => absurd h (by omega), Below.refl _ _⟩
    case round =>
      obtain ⟨j, hj, rfl, hq, hbw⟩ := hrel
      have hws := hbw.size
      by_cases hlt : j < l.length
      · obtain ⟨b1, off, x, rfl, hb1, hx0, c0, c1⟩ := H.out j hlt
        obtain ⟨b2, off2, y, rfl, hb2, hy0, d0, d1⟩ := H2.out j (by omega)
        have c0 := (hbw.cell (p := ⟨b1, off + j * 2, none⟩) hb1).trans c0
        have d0 := (hbw.cell (p := ⟨b2, off2 + j * 2, none⟩) hb2).trans d0
        have c1 := (hbw.cell (p := ⟨b1, off + j * 2 + 1, none⟩) hb1).trans c1
        have d1 := (hbw.cell (p := ⟨b2, off2 + j * 2 + 1, none⟩) hb2).trans d1
        have hz1 : b1 < wr.heap.size := by omega
        have hz2 : b2 < wr.heap.size := by omega
        have hx := Lib.hid hx0
        have hy := Lib.hid hy0
        clear hx0 hy0
        rcases Bool.eq_false_or_eq_true (eqS x y) with hf | hf
        · have hF := Lib.hid hf
          have hd2 : (!(x.lo == y.lo && x.hi == y.hi)) = false := by have := hf; simp only [eqS] at this; simp [this]
          clear hf
          go_wp2
          refine wp_region_grown (by kernel_rfl) (by kernel_rfl) fun hcg => ?_
          repeat (go_big_quiet_step (fail))
          refine wpQuiet_nil ?_
          intro _ hw'
          obtain ⟨g, hw''⟩ := hw'
          subst hw''
          have hB := hbw.trans (g.b.mono (by omega))
          go_wp2
          go_roundw
          case rel => exact ⟨j + 1, by omega, by go_num, fun k a b hk ha hb => if e : k = j then by subst e; rw [hx.out] at ha; rw [hy.out] at hb; cases ha; cases hb; exact hF.out else hq.out k a b (by omega) ha hb, hB⟩
          case measure => simp [intOf]; omega
        · have hF := Lib.hid hf
          have hd2 : (!(x.lo == y.lo && x.hi == y.hi)) = true := by have := hf; simp only [eqS] at this; simp [this]
          clear hf
          go_wp2
          refine wp_region_grown (by kernel_rfl) (by kernel_rfl) fun hcg => ?_
          repeat (go_big_quiet_step (fail))
          refine wpQuiet_nil ?_
          intro _ hw'
          obtain ⟨g, hw''⟩ := hw'
          subst hw''
          have hB := hbw.trans (g.b.mono (by omega))
          go_wp2
          go_ret
          exact ⟨ret_bool (by rw [sameBy_no hx.out hy.out hF.out]), hB⟩
      · obtain rfl : j = l.length := by omega
        go_wp2
        go_ret
        exact ⟨ret_bool (by rw [sameBy_yes HLE.out fun k x y hx hy => hq.out k x y (List.getElem?_eq_some_iff.1 hx).1 hx hy]), hbw⟩
  · have hd : ((l.length : Int) != m.length) = true := by simp; omega
    have HLE := Lib.hid hlen
    clear hlen
    go_enter Try.func67, Try.ntmps67
    go_wp2
    go_ret
    exact ⟨ret_bool (by rw [sameBy_len HLE.out]), Below.refl _ _⟩
end Go.Proofs.Ytaaeipjnhjgjdaa
/- Batches together: what is asked of them. -/
namespace Go.Proofs.Ytaaeipjnhjgjdaa
open Go.RowKit

def btL (b : Bt) : List Value := [.int .i64 b.n, .int .i64 b.s.a, .int .i64 b.s.b, .int .i64 b.s.c, .int .i64 b.k0.lo, .int .i64 b.k0.hi, .int .i64 b.k1.lo, .int .i64 b.k1.hi, .int .i64 b.k2.lo, .int .i64 b.k2.hi]
theorem btL_len (b : Bt) : (btL b).length = 10 := rfl
@[reducible] def Bts (w : World) (B : Nat) (v : Value) (l : List Bt) : Prop := Sl btL 10 w B v l
theorem Bts.open_ {w : World} {B : Nat} {v : Value} {l : List Bt} (h : Bts w B v l) :
    ∃ (A : Option Addr) (cap : Nat), v = .slice A l.length cap ∧ l.length ≤ cap ∧ l.length ≤ 140737488355328 ∧
      ∀ k, k < l.length → ∃ b off x, A = some ⟨b, off, none⟩ ∧ b < B ∧ l[k]? = some x ∧ w.cell? ⟨b, off + k * 10, none⟩ = some (.int .i64 x.n) ∧
        w.cell? ⟨b, off + k * 10 + 1, none⟩ = some (.int .i64 x.s.a) ∧ w.cell? ⟨b, off + k * 10 + 2, none⟩ = some (.int .i64 x.s.b) ∧ w.cell? ⟨b, off + k * 10 + 3, none⟩ = some (.int .i64 x.s.c) ∧
        w.cell? ⟨b, off + k * 10 + 4, none⟩ = some (.int .i64 x.k0.lo) ∧ w.cell? ⟨b, off + k * 10 + 5, none⟩ = some (.int .i64 x.k0.hi) ∧ w.cell? ⟨b, off + k * 10 + 6, none⟩ = some (.int .i64 x.k1.lo) ∧
        w.cell? ⟨b, off + k * 10 + 7, none⟩ = some (.int .i64 x.k1.hi) ∧ w.cell? ⟨b, off + k * 10 + 8, none⟩ = some (.int .i64 x.k2.lo) ∧ w.cell? ⟨b, off + k * 10 + 9, none⟩ = some (.int .i64 x.k2.hi) := by
  obtain ⟨A, cap, e, h1, h2, h3⟩ := h
  refine ⟨A, cap, e, h1, h2, fun k hk => ?_⟩
  obtain ⟨b, off, e2, hb, hc⟩ := h3 (by omega)
  have hx := List.getElem?_eq_getElem hk
  exact ⟨b, off, l[k], e2, hb, hx, hc k _ hx 0 _ rfl, hc k _ hx 1 _ rfl, hc k _ hx 2 _ rfl, hc k _ hx 3 _ rfl, hc k _ hx 4 _ rfl, hc k _ hx 5 _ rfl, hc k _ hx 6 _ rfl, hc k _ hx 7 _ rfl, hc k _ hx 8 _ rfl, hc k _ hx 9 _ rfl⟩

theorem endsP_bound {b : Bt} (h : checkB b = 0) (s : Int) : ∀ j, j ≤ (wholesL b).length → 0 ≤ (endsP b s j).lo ∧ (endsP b s j).lo ≤ (endsP b s j).hi ∧ (endsP b s j).hi ≤ b.n := by
  obtain ⟨hr, hw⟩ := check_ok h
  have hn := right_n hr
  intro j
  induction j with
  | zero =>
    intro _
    cases hl : wholesL b with
    | nil => exact absurd hl hw
    | cons x l =>
      have := whole_get (by omega) (w := x) (b := b) (by rw [hl]; simp) s
      simp only [endsP, hl, List.take_zero, List.foldl_nil, List.headD_cons]
      omega
  | succ j ih =>
    intro hj
    have hx := List.getElem?_eq_getElem (show j < (wholesL b).length by omega)
    rw [endsP_step hx]
    have := whole_get (by omega) (List.getElem_mem (show j < (wholesL b).length by omega)) s
    have := ih (by omega)
    simp only
    omega
theorem ends_bound {b : Bt} (h : checkB b = 0) (s : Int) : 0 ≤ (endsI b s).lo ∧ (endsI b s).lo ≤ (endsI b s).hi ∧ (endsI b s).hi ≤ 50 := by
  have := endsP_bound h s _ (Nat.le_refl _)
  have := right_n (check_ok h).1
  unfold endsI
  omega
def losP (l : List Bt) (s : Int) (j : Nat) : Int := ((l.take j).map fun b => (endsI b s).lo).sum
def hisP (l : List Bt) (s : Int) (j : Nat) : Int := ((l.take j).map fun b => (endsI b s).hi).sum
theorem losP_step {l : List Bt} {s : Int} {j : Nat} {x : Bt} (hx : l[j]? = some x) : losP l s (j + 1) = losP l s j + (endsI x s).lo := by
  unfold losP; rw [List.take_add_one, hx]; simp
theorem hisP_step {l : List Bt} {s : Int} {j : Nat} {x : Bt} (hx : l[j]? = some x) : hisP l s (j + 1) = hisP l s j + (endsI x s).hi := by
  unfold hisP; rw [List.take_add_one, hx]; simp
theorem sums_bound {l : List Bt} (h : ∀ b ∈ l, checkB b = 0) (s : Int) : ∀ j, j ≤ l.length → 0 ≤ losP l s j ∧ losP l s j ≤ hisP l s j ∧ hisP l s j ≤ 50 * j := by
  intro j
  induction j with
  | zero => intro _; simp [losP, hisP]
  | succ j ih =>
    intro hj
    have hx := List.getElem?_eq_getElem (show j < l.length by omega)
    rw [losP_step hx, hisP_step hx]
    have := ends_bound (h _ (List.getElem_mem (show j < l.length by omega))) s
    have := ih (by omega)
    omega
def losI (l : List Bt) (s : Int) : Int := losP l s l.length
def hisI (l : List Bt) (s : Int) : Int := hisP l s l.length
/-- The ends of a batch that hold together with those of the others. -/
def nearI (l : List Bt) (s : Int) (p : Sp) (x : Bt) : Sp :=
  ⟨max (endsI x s).lo (max p.lo (losI l s) - (hisI l s - (endsI x s).hi)), min (endsI x s).hi (min p.hi (hisI l s) - (losI l s - (endsI x s).lo))⟩
def badB (b : Bt) : Bool := checkB b != 0
def firstE (l : List Bt) : Int := match l.find? badB with | some b => checkB b | none => 0
def togetherE (l : List Bt) (s : Int) (p : Sp) : Int :=
  if 12 < l.length then 2 else if firstE l ≠ 0 then firstE l else if inI s 0 2 = false ∨ p.hi < p.lo then 1 else if hisI l s < p.lo ∨ p.hi < losI l s then 9 else 0
def togetherL (l : List Bt) (s : Int) (p : Sp) : List Sp := if togetherE l s p = 0 then l.map (nearI l s p) else []
theorem first_bad {l : List Bt} {x : Bt} (h : l.find? badB = some x) : firstE l = checkB x := by unfold firstE; rw [h]
theorem first_ok {l : List Bt} (h : l.find? badB = none) : firstE l = 0 ∧ ∀ b ∈ l, checkB b = 0 := by
  refine ⟨by unfold firstE; rw [h], fun b hb => ?_⟩
  have := List.find?_eq_none.1 h b hb
  simpa [badB] using this
end Go.Proofs.Ytaaeipjnhjgjdaa
/- Plans, by the reference. -/
namespace Go.Proofs.Ytaaeipjnhjgjdaa
open Go.RowKit

theorem atMost3_c (n m t k : Int) (w : World) (hm : 0 ≤ m) (h : m ≤ n) (hn : n ≤ 50) (ht : 0 ≤ t) (htn : t ≤ n) :
    Calls Try.prog 119 #[.int .i64 n, .int .i64 m, .int .i64 t, .int .i64 k] w fun e w' => e = .returned (.int .i64 (atMostI n m t k)) ∧ Below w.heap.size w w' := by
  have hbd := fun j hj => hits_le (n := n) hm h ht (j := j) hj
  have HB := Lib.hid hbd
  have hcc := chooseI_le (n := n) t hn
  clear hbd
  go_enter Try.func119, Try.ntmps119
  go_wp2
  go_loopw [9, 10] (fun a i wr => ∃ j : Nat, (j : Int) ≤ max 0 (min t k + 1) ∧ i = .int .i64 j ∧ a = .int .i64 (sumI (hit n m t) j) ∧ Below w.heap.size w wr) (fun _ i _ => (t + 1).toNat - (intOf i).toNat)
  case atStart => exact ⟨0, by omega, rfl, rfl, Below.refl _ _⟩
  case round =>
    obtain ⟨j, hj, rfl, rfl, hb⟩ := hrel
    by_cases h1 : (j : Int) ≤ t
    · have d1 : decide ((j : Int) ≤ t) = true := decide_eq_true h1
      by_cases h2 : (j : Int) ≤ k
      · have d2 : decide ((j : Int) ≤ k) = true := decide_eq_true h2
        have q1 := HB.out j (by omega)
        have q2 := HB.out (j + 1) (by omega)
        have hstep : Hid (sumI (hit n m t) j + chooseI m j * chooseI (n - m) (t - j) = sumI (hit n m t) (j + 1)) := rfl
        have k1 := chooseI_nonneg m j
        have k2 := chooseI_nonneg (n - m) (t - j)
        have k3 : 0 ≤ chooseI m j * chooseI (n - m) (t - j) := Int.mul_nonneg k1 k2
        have k4 : chooseI m j * chooseI (n - m) (t - j) ≤ 126410606437752 := by have := hstep.out; omega
        go_wp2_with fail
        refine (choose3_c _ _ _ hm (by omega) (by omega)).mono ?_
        rintro e w1 ⟨rfl, hb1⟩
        go_wp2_with fail
        refine (choose3_c _ _ _ (by omega) (by omega) (by omega)).mono ?_
        rintro e w2 ⟨rfl, hb2⟩
        have hs := hb.size
        have hs1 := hb1.size
        have hB := hb.trans ((below_then hb1 hb2).mono hs)
        go_wp2_with fail
        go_roundw
        case rel => exact ⟨j + 1, by omega, by go_num, by rw [hstep.out], hB⟩
        case measure => simp [intOf]; omega
      · have d2 : decide ((j : Int) ≤ k) = false := decide_eq_false h2
        have he : Hid (atMostI n m t k = sumI (hit n m t) j) := by show atMostI n m t k = _; unfold atMostI; congr 1; omega
        go_wp2
        go_ret
        exact ⟨ret_int he.out.symm, hb⟩
    · have d1 : decide ((j : Int) ≤ t) = false := decide_eq_false h1
      have he : Hid (atMostI n m t k = sumI (hit n m t) j) := by show atMostI n m t k = _; unfold atMostI; congr 1; omega
      go_wp2
      go_ret
      exact ⟨ret_int he.out.symm, hb⟩

theorem lot3_b {n m : Int} {b : Bool} (w : World) (h : (inI n 1 50 && inI m 0 n) = b) : Calls Try.prog 118 #[.int .i64 n, .int .i64 m] w fun e w' => e = .returned (.bool b) ∧ w = w' :=
  (lot3_c n m w).mono fun _ _ ⟨a, c⟩ => ⟨by rw [a, h], c⟩
theorem in3_e {n lo hi : Int} {b : Bool} (w : World) (h : inI n lo hi = b) :
    Calls Try.prog 88 #[.int .i64 n, .int .i64 lo, .int .i64 hi] w fun e w' => e = .returned (.bool b) ∧ w = w' :=
  (in3_c n lo hi w).mono fun _ _ ⟨a, b⟩ => ⟨by rw [a, h], b⟩
theorem AtMost3_c (n m t k : Int) (w : World) :
    Calls Try.prog 52 #[.int .i64 n, .int .i64 m, .int .i64 t, .int .i64 k] w fun e w' => e = .returned (.tuple #[.int .i64 (atMostR n m t k).1, .int .i64 (atMostR n m t k).2]) ∧ Below w.heap.size w w' := by
  rcases Bool.eq_false_or_eq_true (inI n 1 50 && inI m 0 n) with h1 | h1
  · rcases Bool.eq_false_or_eq_true (inI t 0 n) with h2 | h2
    · by_cases h3 : k < 0
      · rw [show atMostR n m t k = (0, 1) by unfold atMostR; rw [if_neg]; simp; omega]
        have d3 : decide (k < 0) = true := decide_eq_true h3
        have H1 := Lib.hid h1
        have H2 := Lib.hid h2
        clear h1 h2
        go_enter Try.func52, Try.ntmps52
        go_wp2_with fail
        refine (lot3_b _ H1.out).mono ?_
        rintro e w1 ⟨rfl, rfl⟩
        go_wp2_with fail
        refine (in3_e _ H2.out).mono ?_
        rintro e w1 ⟨rfl, rfl⟩
        go_wp2_with fail
        go_ret2
        exact ⟨rfl, Below.refl _ _⟩
      · rw [show atMostR n m t k = (atMostI n m t k, 0) by unfold atMostR; rw [h1, h2, if_pos]; simp; omega]
        have d3 : decide (k < 0) = false := decide_eq_false h3
        have b1 : (1 ≤ n ∧ n ≤ 50) ∧ 0 ≤ m ∧ m ≤ n := by simpa [inI] using h1
        have b2 : 0 ≤ t ∧ t ≤ n := by simpa [inI] using h2
        have H1 := Lib.hid h1
        have H2 := Lib.hid h2
        clear h1 h2
        go_enter Try.func52, Try.ntmps52
        go_wp2_with fail
        refine (lot3_b _ H1.out).mono ?_
        rintro e w1 ⟨rfl, rfl⟩
        go_wp2_with fail
        refine (in3_e _ H2.out).mono ?_
        rintro e w1 ⟨rfl, rfl⟩
        go_wp2_with fail
        refine (atMost3_c n m t k _ b1.2.1 b1.2.2 b1.1.2 b2.1 b2.2).mono ?_
        rintro e w1 ⟨rfl, hb1⟩
        go_wp2_with fail
        go_ret2
        exact ⟨rfl, hb1⟩
    · rw [show atMostR n m t k = (0, 1) by unfold atMostR; rw [if_neg]; simp [h2]]
      have H1 := Lib.hid h1
      have H2 := Lib.hid h2
      clear h1 h2
      go_enter Try.func52, Try.ntmps52
      go_wp2_with fail
      refine (lot3_b _ H1.out).mono ?_
      rintro e w1 ⟨rfl, rfl⟩
      go_wp2_with fail
      refine (in3_e _ H2.out).mono ?_
      rintro e w1 ⟨rfl, rfl⟩
      go_wp2_with fail
      go_ret2
      exact ⟨rfl, Below.refl _ _⟩
  · rw [show atMostR n m t k = (0, 1) by unfold atMostR; rw [h1, if_neg]; simp]
    have H1 := Lib.hid h1
    clear h1
    go_enter Try.func52, Try.ntmps52
    go_wp2_with fail
    refine (lot3_b _ H1.out).mono ?_
    rintro e w1 ⟨rfl, rfl⟩
    go_wp2_with fail
    go_ret2
    exact ⟨rfl, Below.refl _ _⟩
end Go.Proofs.Ytaaeipjnhjgjdaa
/- Levels, by the reference. -/
namespace Go.Proofs.Ytaaeipjnhjgjdaa
open Go.RowKit

theorem lot0 (n : Int) : (inI n 1 50 && inI 0 0 n) = inI n 1 50 := by
  rw [Bool.eq_iff_iff]; simp [inI]; omega
theorem level3_b {r : Rt} {b : Bool} (w : World) (h : levelB r = b) : Calls Try.prog 120 #[rtV r] w fun e w' => e = .returned (.bool b) ∧ Below w.heap.size w w' :=
  (level3_c r w).mono fun _ _ ⟨a, c⟩ => ⟨by rw [a, h], c⟩

set_option maxHeartbeats 400000 in
theorem Upper3_c (n t k : Int) (r : Rt) (w : World) :
    Calls Try.prog 53 #[.int .i64 n, .int .i64 t, .int .i64 k, rtV r] w fun e w' => e = .returned (.tuple #[.int .i64 (upperR n t k r).1, .int .i64 (upperR n t k r).2]) ∧ Below w.heap.size w w' := by
  unfold rtV
  rcases Bool.eq_false_or_eq_true (inI n 1 50) with h1 | h1
  · rcases Bool.eq_false_or_eq_true (inI t 0 n) with h2 | h2
    · rcases Bool.eq_false_or_eq_true (inI k 0 t) with h3 | h3
      · rcases Bool.eq_false_or_eq_true (levelB r) with h4 | h4
        · rw [show upperR n t k r = (upperI n t k r n.toNat, 0) by unfold upperR askB; rw [h1, h2, h3, h4]; rfl]
          have b1 : 1 ≤ n ∧ n ≤ 50 := by simpa [inI] using h1
          have b2 : 0 ≤ t ∧ t ≤ n := by simpa [inI] using h2
          have b4 := level_ok h4
          have H1 := Lib.hid h1
          have H2 := Lib.hid h2
          have H3 := Lib.hid h3
          have H4 := Lib.hid h4
          clear h1 h2 h3 h4
          obtain ⟨N, rfl⟩ := Int.eq_ofNat_of_zero_le (by omega : 0 ≤ n)
          rw [Int.toNat_natCast]
          have c1 := chooseI_nonneg (N : Int) t
          have c2 := chooseI_le (n := (N : Int)) t b1.2
          have e1 : 0 ≤ chooseI N t * r.num := Int.mul_nonneg c1 b4.2.2.1
          have e2 : chooseI N t * r.num ≤ 126410606437752 * 10000 := Int.mul_le_mul c2 (by omega) b4.2.2.1 (by omega)
          go_enter Try.func53, Try.ntmps53
          go_wp2_with fail
          refine (lot3_b _ ((lot0 _).trans H1.out)).mono ?_
          rintro e w1 ⟨rfl, rfl⟩
          go_wp2_with fail
          refine (in3_e _ H2.out).mono ?_
          rintro e w1 ⟨rfl, rfl⟩
          go_wp2_with fail
          refine (in3_e _ H3.out).mono ?_
          rintro e w1 ⟨rfl, rfl⟩
          go_wp2_with fail
          refine (level3_b _ H4.out).mono ?_
          rintro e w1 ⟨rfl, hb1⟩
          go_wp2_with fail
          refine (choose3_c _ _ _ (by omega) b1.2 b2.1).mono ?_
          rintro e w2 ⟨rfl, hb2⟩
          have hB2 := below_then hb1 hb2
          go_wp2_with fail
          go_loopw [11] (fun i wr => ∃ j : Nat, j ≤ N ∧ i = .int .i64 j ∧ Hid (upperI N t k r N = upperI N t k r j) ∧ Below (w.heap.size + 1) (w.alloc (.cells #[.int .i64 r.num, .int .i64 r.den] 53)) wr) (fun i _ => (intOf i).toNat)
          case atStart => exact ⟨N, Nat.le_refl _, rfl, rfl, by simpa using hB2⟩
          case round =>
            obtain ⟨j, hj, rfl, hq, hb⟩ := hrel
            have hbs := hb.size
            simp only [World.size_alloc] at hbs
            have hz : w.heap.size < wr.heap.size := by omega
            obtain ⟨hc, hf⟩ := bcellB hb
            cases j with
            | zero =>
              go_wp2
              go_ret2
              exact ⟨by rw [hq.out]; rfl, below_then (below_alloc _ _) (hb.mono (by simp))⟩
            | succ p =>
              have a0 := atMost_le (n := N) (m := (p : Int) + 1) (t := t) (by omega) (by omega) b2.1 k
              have f1 : 0 ≤ atMostI N ((p : Int) + 1) t k * r.den := Int.mul_nonneg a0.1 (by omega)
              have f2 : atMostI N ((p : Int) + 1) t k * r.den ≤ 126410606437752 * 10000 := Int.mul_le_mul (by omega) b4.2.1 (by omega) (by omega)
              rw [show ((p + 1 : Nat) : Int) = (p : Int) + 1 from rfl]
              by_cases hcmp : chooseI N t * r.num ≤ atMostI N ((p : Int) + 1) t k * r.den
              · have hu : Hid (upperI N t k r (p + 1) = (p : Int) + 1) := by show upperI N t k r (p + 1) = _; unfold upperI; rw [show ((p + 1 : Nat) : Int) = (p : Int) + 1 from rfl, if_pos hcmp]
                have dc : decide (chooseI N t * r.num ≤ atMostI N ((p : Int) + 1) t k * r.den) = true := decide_eq_true hcmp
                go_wp2
                refine wp_region_grown (by kernel_rfl) (by kernel_rfl) fun hcg => ?_
                repeat (go_big_quiet_step (first | (go_at_call 119; exact Calls.grown (atMost3_c _ _ _ _ _ (by omega) (by omega) b1.2 b2.1 b2.2))))
                refine wpQuiet_nil ?_
                intro _ hw'
                obtain ⟨g, hw''⟩ := hw'
                subst hw''
                have hB := hb.trans (g.b.mono (by omega))
                go_wp2
                go_ret2
                exact ⟨by rw [hq.out, hu.out]; rfl, below_then (below_alloc _ _) (hB.mono (by simp))⟩
              · have hu : Hid (upperI N t k r (p + 1) = upperI N t k r p) := by show upperI N t k r (p + 1) = _; rw [upperI, show ((p + 1 : Nat) : Int) = (p : Int) + 1 from rfl, if_neg hcmp]
                have dc : decide (chooseI N t * r.num ≤ atMostI N ((p : Int) + 1) t k * r.den) = false := decide_eq_false hcmp
                go_wp2
                refine wp_region_grown (by kernel_rfl) (by kernel_rfl) fun hcg => ?_
                repeat (go_big_quiet_step (first | (go_at_call 119; exact Calls.grown (atMost3_c _ _ _ _ _ (by omega) (by omega) b1.2 b2.1 b2.2))))
                refine wpQuiet_nil ?_
                intro _ hw'
                obtain ⟨g, hw''⟩ := hw'
                subst hw''
                have hB := hb.trans (g.b.mono (by omega))
                go_wp2
                go_roundw
                case rel => exact ⟨p, by omega, by go_num, hq.out.trans hu.out, hB⟩
                case measure => simp [intOf] <;> omega
        · rw [show upperR n t k r = (0, 1) by unfold upperR askB; rw [if_neg]; simp [h4]]
          have H1 := Lib.hid h1
          have H2 := Lib.hid h2
          have H3 := Lib.hid h3
          have H4 := Lib.hid h4
          clear h1 h2 h3 h4
          go_enter Try.func53, Try.ntmps53
          go_wp2_with fail
          refine (lot3_b _ ((lot0 _).trans H1.out)).mono ?_
          rintro e w1 ⟨rfl, rfl⟩
          go_wp2_with fail
          refine (in3_e _ H2.out).mono ?_
          rintro e w1 ⟨rfl, rfl⟩
          go_wp2_with fail
          refine (in3_e _ H3.out).mono ?_
          rintro e w1 ⟨rfl, rfl⟩
          go_wp2_with fail
          refine (level3_b _ H4.out).mono ?_
          rintro e w1 ⟨rfl, hb1⟩
          go_wp2_with fail
          go_ret2
          exact ⟨rfl, below_then (below_alloc _ _) hb1⟩
      · rw [show upperR n t k r = (0, 1) by unfold upperR askB; rw [if_neg]; simp [h3]]
        have H1 := Lib.hid h1
        have H2 := Lib.hid h2
        have H3 := Lib.hid h3
        clear h1 h2 h3
        go_enter Try.func53, Try.ntmps53
        go_wp2_with fail
        refine (lot3_b _ ((lot0 _).trans H1.out)).mono ?_
        rintro e w1 ⟨rfl, rfl⟩
        go_wp2_with fail
        refine (in3_e _ H2.out).mono ?_
        rintro e w1 ⟨rfl, rfl⟩
        go_wp2_with fail
        refine (in3_e _ H3.out).mono ?_
        rintro e w1 ⟨rfl, rfl⟩
        go_wp2_with fail
        go_ret2
        exact ⟨rfl, below_alloc _ _⟩
    · rw [show upperR n t k r = (0, 1) by unfold upperR askB; rw [if_neg]; simp [h2]]
      have H1 := Lib.hid h1
      have H2 := Lib.hid h2
      clear h1 h2
      go_enter Try.func53, Try.ntmps53
      go_wp2_with fail
      refine (lot3_b _ ((lot0 _).trans H1.out)).mono ?_
      rintro e w1 ⟨rfl, rfl⟩
      go_wp2_with fail
      refine (in3_e _ H2.out).mono ?_
      rintro e w1 ⟨rfl, rfl⟩
      go_wp2_with fail
      go_ret2
      exact ⟨rfl, below_alloc _ _⟩
  · rw [show upperR n t k r = (0, 1) by unfold upperR askB; rw [if_neg]; simp [h1]]
    have H1 := Lib.hid h1
    clear h1
    go_enter Try.func53, Try.ntmps53
    go_wp2_with fail
    refine (lot3_b _ ((lot0 _).trans H1.out)).mono ?_
    rintro e w1 ⟨rfl, rfl⟩
    go_wp2_with fail
    go_ret2
    exact ⟨rfl, below_alloc _ _⟩

set_option maxHeartbeats 400000 in
theorem Lower3_c (n t k : Int) (r : Rt) (w : World) :
    Calls Try.prog 54 #[.int .i64 n, .int .i64 t, .int .i64 k, rtV r] w fun e w' => e = .returned (.tuple #[.int .i64 (lowerR n t k r).1, .int .i64 (lowerR n t k r).2]) ∧ Below w.heap.size w w' := by
  unfold rtV
  rcases Bool.eq_false_or_eq_true (inI n 1 50) with h1 | h1
  · rcases Bool.eq_false_or_eq_true (inI t 0 n) with h2 | h2
    · rcases Bool.eq_false_or_eq_true (inI k 0 t) with h3 | h3
      · rcases Bool.eq_false_or_eq_true (levelB r) with h4 | h4
        · rw [show lowerR n t k r = (lowerI n.toNat t k r n.toNat, 0) by unfold lowerR askB; rw [h1, h2, h3, h4]; rfl]
          have b1 : 1 ≤ n ∧ n ≤ 50 := by simpa [inI] using h1
          have b2 : 0 ≤ t ∧ t ≤ n := by simpa [inI] using h2
          have b3 : 0 ≤ k ∧ k ≤ t := by simpa [inI] using h3
          have b4 := level_ok h4
          have H1 := Lib.hid h1
          have H2 := Lib.hid h2
          have H3 := Lib.hid h3
          have H4 := Lib.hid h4
          clear h1 h2 h3 h4
          obtain ⟨N, rfl⟩ := Int.eq_ofNat_of_zero_le (by omega : 0 ≤ n)
          rw [Int.toNat_natCast]
          have c1 := chooseI_nonneg (N : Int) t
          have c2 := chooseI_le (n := (N : Int)) t b1.2
          have e1 : 0 ≤ chooseI N t * r.num := Int.mul_nonneg c1 b4.2.2.1
          have e2 : chooseI N t * r.num ≤ 126410606437752 * 10000 := Int.mul_le_mul c2 (by omega) b4.2.2.1 (by omega)
          go_enter Try.func54, Try.ntmps54
          go_wp2_with fail
          refine (lot3_b _ ((lot0 _).trans H1.out)).mono ?_
          rintro e w1 ⟨rfl, rfl⟩
          go_wp2_with fail
          refine (in3_e _ H2.out).mono ?_
          rintro e w1 ⟨rfl, rfl⟩
          go_wp2_with fail
          refine (in3_e _ H3.out).mono ?_
          rintro e w1 ⟨rfl, rfl⟩
          go_wp2_with fail
          refine (level3_b _ H4.out).mono ?_
          rintro e w1 ⟨rfl, hb1⟩
          go_wp2_with fail
          refine (choose3_c _ _ _ (by omega) b1.2 b2.1).mono ?_
          rintro e w2 ⟨rfl, hb2⟩
          have hB2 := below_then hb1 hb2
          go_wp2_with fail
          go_loopw [11] (fun i wr => ∃ j : Nat, j ≤ N ∧ i = .int .i64 j ∧ Hid (lowerI N t k r N = lowerI N t k r (N - j)) ∧ Below (w.heap.size + 1) (w.alloc (.cells #[.int .i64 r.num, .int .i64 r.den] 53)) wr) (fun i _ => N - (intOf i).toNat)
          case atStart => exact ⟨0, Nat.zero_le _, rfl, rfl, by simpa using hB2⟩
          case round =>
            obtain ⟨j, hj, rfl, hq, hb⟩ := hrel
            have hbs := hb.size
            simp only [World.size_alloc] at hbs
            have hz : w.heap.size < wr.heap.size := by omega
            obtain ⟨hc, hf⟩ := bcellB hb
            by_cases hlt : j < N
            · have a0 := atMost_le (n := N) (m := (j : Int)) (t := t) (by omega) (by omega) b2.1 (k - 1)
              have f1 : 0 ≤ (chooseI N t - atMostI N j t (k - 1)) * r.den := Int.mul_nonneg (by omega) (by omega)
              have f2 : (chooseI N t - atMostI N j t (k - 1)) * r.den ≤ 126410606437752 * 10000 := Int.mul_le_mul (by omega) b4.2.1 (by omega) (by omega)
              have hsplit : N - j = (N - (j + 1)) + 1 := by omega
              have hback : (N : Int) - ((N - (j + 1) + 1 : Nat) : Int) = j := by omega
              have HS := Lib.hid hsplit
              have HK := Lib.hid hback
              clear hsplit hback
              by_cases hcmp : chooseI N t * r.num ≤ (chooseI N t - atMostI N j t (k - 1)) * r.den
              · have hu : Hid (lowerI N t k r (N - j) = j) := by show lowerI N t k r (N - j) = _; rw [HS.out, lowerI, HK.out, if_pos hcmp]
                have dc : decide (chooseI N t * r.num ≤ (chooseI N t - atMostI N j t (k - 1)) * r.den) = true := decide_eq_true hcmp
                go_wp2
                refine wp_region_grown (by kernel_rfl) (by kernel_rfl) fun hcg => ?_
                repeat (go_big_quiet_step (first | (go_at_call 119; exact Calls.grown (atMost3_c _ _ _ _ _ (by omega) (by omega) b1.2 b2.1 b2.2))))
                refine wpQuiet_nil ?_
                intro _ hw'
                obtain ⟨g, hw''⟩ := hw'
                subst hw''
                have hB := hb.trans (g.b.mono (by omega))
                go_wp2
                go_ret2
                exact ⟨by rw [hq.out, hu.out]; rfl, below_then (below_alloc _ _) (hB.mono (by simp))⟩
              · have hu : Hid (lowerI N t k r (N - j) = lowerI N t k r (N - (j + 1))) := by show lowerI N t k r (N - j) = _; rw [HS.out, lowerI, HK.out, if_neg hcmp]
                have dc : decide (chooseI N t * r.num ≤ (chooseI N t - atMostI N j t (k - 1)) * r.den) = false := decide_eq_false hcmp
                go_wp2
                refine wp_region_grown (by kernel_rfl) (by kernel_rfl) fun hcg => ?_
                repeat (go_big_quiet_step (first | (go_at_call 119; exact Calls.grown (atMost3_c _ _ _ _ _ (by omega) (by omega) b1.2 b2.1 b2.2))))
                refine wpQuiet_nil ?_
                intro _ hw'
                obtain ⟨g, hw''⟩ := hw'
                subst hw''
                have hB := hb.trans (g.b.mono (by omega))
                go_wp2
                go_roundw
                case rel => exact ⟨j + 1, by omega, by go_num, hq.out.trans hu.out, hB⟩
                case measure => simp [intOf] <;> omega
            · obtain rfl : j = N := by omega
              go_wp2
              go_ret2
              exact ⟨by rw [hq.out, Nat.sub_self]; rfl, below_then (below_alloc _ _) (hb.mono (by simp))⟩
        · rw [show lowerR n t k r = (0, 1) by unfold lowerR askB; rw [if_neg]; simp [h4]]
          have H1 := Lib.hid h1
          have H2 := Lib.hid h2
          have H3 := Lib.hid h3
          have H4 := Lib.hid h4
          clear h1 h2 h3 h4
          go_enter Try.func54, Try.ntmps54
          go_wp2_with fail
          refine (lot3_b _ ((lot0 _).trans H1.out)).mono ?_
          rintro e w1 ⟨rfl, rfl⟩
          go_wp2_with fail
          refine (in3_e _ H2.out).mono ?_
          rintro e w1 ⟨rfl, rfl⟩
          go_wp2_with fail
          refine (in3_e _ H3.out).mono ?_
          rintro e w1 ⟨rfl, rfl⟩
          go_wp2_with fail
          refine (level3_b _ H4.out).mono ?_
          rintro e w1 ⟨rfl, hb1⟩
          go_wp2_with fail
          go_ret2
          exact ⟨rfl, below_then (below_alloc _ _) hb1⟩
      · rw [show lowerR n t k r = (0, 1) by unfold lowerR askB; rw [if_neg]; simp [h3]]
        have H1 := Lib.hid h1
        have H2 := Lib.hid h2
        have H3 := Lib.hid h3
        clear h1 h2 h3
        go_enter Try.func54, Try.ntmps54
        go_wp2_with fail
        refine (lot3_b _ ((lot0 _).trans H1.out)).mono ?_
        rintro e w1 ⟨rfl, rfl⟩
        go_wp2_with fail
        refine (in3_e _ H2.out).mono ?_
        rintro e w1 ⟨rfl, rfl⟩
        go_wp2_with fail
        refine (in3_e _ H3.out).mono ?_
        rintro e w1 ⟨rfl, rfl⟩
        go_wp2_with fail
        go_ret2
        exact ⟨rfl, below_alloc _ _⟩
    · rw [show lowerR n t k r = (0, 1) by unfold lowerR askB; rw [if_neg]; simp [h2]]
      have H1 := Lib.hid h1
      have H2 := Lib.hid h2
      clear h1 h2
      go_enter Try.func54, Try.ntmps54
      go_wp2_with fail
      refine (lot3_b _ ((lot0 _).trans H1.out)).mono ?_
      rintro e w1 ⟨rfl, rfl⟩
      go_wp2_with fail
      refine (in3_e _ H2.out).mono ?_
      rintro e w1 ⟨rfl, rfl⟩
      go_wp2_with fail
      go_ret2
      exact ⟨rfl, below_alloc _ _⟩
  · rw [show lowerR n t k r = (0, 1) by unfold lowerR askB; rw [if_neg]; simp [h1]]
    have H1 := Lib.hid h1
    clear h1
    go_enter Try.func54, Try.ntmps54
    go_wp2_with fail
    refine (lot3_b _ ((lot0 _).trans H1.out)).mono ?_
    rintro e w1 ⟨rfl, rfl⟩
    go_wp2_with fail
    go_ret2
    exact ⟨rfl, below_alloc _ _⟩
end Go.Proofs.Ytaaeipjnhjgjdaa
/- The chance that a plan accepts, by the reference. -/
namespace Go.Proofs.Ytaaeipjnhjgjdaa
open Go.RowKit

@[reducible] def trV (p : Tr) : Value := .agg #[.int .i64 p.sample, .int .i64 p.accept]
set_option maxHeartbeats 400000 in
theorem Pass3_c (n m : Int) (p : Tr) (w : World) :
    Calls Try.prog 57 #[.int .i64 n, .int .i64 m, trV p] w fun e w' => e = .returned (.tuple #[rtV (passR n m p).1, .int .i64 (passR n m p).2]) ∧ Below w.heap.size w w' := by
  unfold trV
  have hy0 := box2 w (.cells #[.int .i64 p.sample, .int .i64 p.accept] 80) #[.int .i64 0, .int .i64 0] 53
  have HY := Lib.hid hy0
  have hB0 := below_then (below_alloc w (.cells #[.int .i64 p.sample, .int .i64 p.accept] 80)) (below_alloc _ (.cells #[.int .i64 0, .int .i64 0] 53))
  clear hy0
  rcases Bool.eq_false_or_eq_true (inI n 1 50 && inI m 0 n) with h1 | h1
  · rcases Bool.eq_false_or_eq_true (inI p.sample 0 n) with h2 | h2
    · rcases Bool.eq_false_or_eq_true (inI p.accept 0 p.sample) with h3 | h3
      · rw [show passR n m p = (ratioI (atMostI n m p.sample p.accept) (chooseI n p.sample), 0) by unfold passR; rw [h1, h2, h3]; rfl]
        have b1 : (1 ≤ n ∧ n ≤ 50) ∧ 0 ≤ m ∧ m ≤ n := by simpa [inI] using h1
        have b2 : 0 ≤ p.sample ∧ p.sample ≤ n := by simpa [inI] using h2
        have H1 := Lib.hid h1
        have H2 := Lib.hid h2
        have H3 := Lib.hid h3
        clear h1 h2 h3
        have a0 := atMost_le (n := n) (m := m) (t := p.sample) b1.2.1 b1.2.2 b2.1 p.accept
        have c0 := chooseI_pos (n := n) (k := p.sample) b2.2
        have c1 := chooseI_le (n := n) p.sample b1.1.2
        go_enter Try.func57, Try.ntmps57
        go_wp2_with fail
        refine (lot3_b _ H1.out).mono ?_
        rintro e w1 ⟨rfl, rfl⟩
        go_wp2_with fail
        refine (in3_e _ H2.out).mono ?_
        rintro e w1 ⟨rfl, rfl⟩
        go_wp2_with fail
        refine (in3_e _ H3.out).mono ?_
        rintro e w1 ⟨rfl, rfl⟩
        go_wp2_with fail
        refine wp_region_grown_tail 12 (by kernel_rfl) (by kernel_rfl) fun hcg => ?_
        simp only [List.take_succ_cons, List.take_zero, List.drop_succ_cons, List.drop_zero]
        repeat (go_big_quiet_step (first | (go_at_call 119; exact Calls.grown (atMost3_c _ _ _ _ _ b1.2.1 b1.2.2 b1.1.2 b2.1 b2.2)) | (go_at_call 121; exact Calls.grown (choose3_c _ _ _ (by omega) b1.1.2 b2.1)) | (go_at_call 98; exact Calls.grown (ratio3_c _ _ _ a0.1 (by omega) (by omega) (by omega)))))
        refine wpQuiet_nil ?_
        intro _ hw'
        obtain ⟨g, hw''⟩ := hw'
        subst hw''
        have hB := below_then hB0 g.b
        have hy := (g.b.block (w.heap.size + 1) (by simp)).trans HY.out
        have y0 := Joins.cell_of_block hy 0
        have y1 := Joins.cell_of_block hy 1
        have g0 := Joins.unfrozen_of_block hy 0
        have g1 := Joins.unfrozen_of_block hy 1
        have hp := put2 (.int .i64 (ratioI (atMostI n m p.sample p.accept) (chooseI n p.sample)).num) (.int .i64 (ratioI (atMostI n m p.sample p.accept) (chooseI n p.sample)).den) hy
        have HP := Lib.hid hp
        clear hp hcg
        go_wp2
        refine bodyPost_ret (v := .tuple #[rtV (ratioI (atMostI n m p.sample p.accept) (chooseI n p.sample)), .int .i64 0]) ?_ rfl ⟨rfl, ?_⟩
        · simp [results, Try.results57, go_sem, HP.out.1, HP.out.2]
        · exact (hB.setCell (by simp) _).setCell (by simp) _
      · rw [show passR n m p = (⟨0, 0⟩, 1) by unfold passR; rw [if_neg]; simp [h3]]
        have H1 := Lib.hid h1
        have H2 := Lib.hid h2
        have H3 := Lib.hid h3
        clear h1 h2 h3
        go_enter Try.func57, Try.ntmps57
        go_wp2_with fail
        refine (lot3_b _ H1.out).mono ?_
        rintro e w1 ⟨rfl, rfl⟩
        go_wp2_with fail
        refine (in3_e _ H2.out).mono ?_
        rintro e w1 ⟨rfl, rfl⟩
        go_wp2_with fail
        refine (in3_e _ H3.out).mono ?_
        rintro e w1 ⟨rfl, rfl⟩
        go_wp2_with fail
        refine bodyPost_ret (v := .tuple #[rtV ⟨0, 0⟩, .int .i64 1]) ?_ rfl ⟨rfl, ?_⟩
        · simp [results, Try.results57, go_sem]
        · exact hB0
    · rw [show passR n m p = (⟨0, 0⟩, 1) by unfold passR; rw [if_neg]; simp [h2]]
      have H1 := Lib.hid h1
      have H2 := Lib.hid h2
      clear h1 h2
      go_enter Try.func57, Try.ntmps57
      go_wp2_with fail
      refine (lot3_b _ H1.out).mono ?_
      rintro e w1 ⟨rfl, rfl⟩
      go_wp2_with fail
      refine (in3_e _ H2.out).mono ?_
      rintro e w1 ⟨rfl, rfl⟩
      go_wp2_with fail
      refine bodyPost_ret (v := .tuple #[rtV ⟨0, 0⟩, .int .i64 1]) ?_ rfl ⟨rfl, ?_⟩
      · simp [results, Try.results57, go_sem]
      · exact hB0
  · rw [show passR n m p = (⟨0, 0⟩, 1) by unfold passR; rw [if_neg]; simp [h1]]
    have H1 := Lib.hid h1
    clear h1
    go_enter Try.func57, Try.ntmps57
    go_wp2_with fail
    refine (lot3_b _ H1.out).mono ?_
    rintro e w1 ⟨rfl, rfl⟩
    go_wp2_with fail
    refine bodyPost_ret (v := .tuple #[rtV ⟨0, 0⟩, .int .i64 1]) ?_ rfl ⟨rfl, ?_⟩
    · simp [results, Try.results57, go_sem]
    · exact hB0
end Go.Proofs.Ytaaeipjnhjgjdaa
