/- Texts joined: 3ProgE 3ProgF 3ProgG 3ProgJ 3ProgAA 3ProgAB 3ProgAC 3ProgAE 3ProgAF 3ProgK. -/
import Derived.Test.YtaaeipjnhjgjdaaJ17
import Derived.Test.YtaaeipjnhjgjdaaJ3
import Derived.Test.YtaaeipjnhjgjdaaJ12
/- Levels, by package sample. -/
namespace Go.Proofs.Ytaaeipjnhjgjdaa
open Go Go.RowKit Go.Shelf

theorem badP_c (n m k : Int) (w : World) :
    Calls Try.prog 112 #[.int .i64 n, .int .i64 m, .int .i64 k] w fun e w' => e = .returned (.bool (inI n 1 k && inI m 0 n)) ∧ w = w' := by
  rcases Bool.eq_false_or_eq_true (inI n 1 k) with h | h
  · go_enter Try.func112, Try.ntmps112
    go_wp2_with fail
    refine (within_c _ _ _ _).mono ?_
    rintro e w' ⟨rfl, rfl⟩
    rw [h]
    go_wp2_with fail
    refine (within_c _ _ _ _).mono ?_
    rintro e w' ⟨rfl, rfl⟩
    go_wp2_with fail
    go_ret
    exact ⟨ret_bool (by simp [h]), rfl⟩
  · go_enter Try.func112, Try.ntmps112
    go_wp2_with fail
    refine (within_c _ _ _ _).mono ?_
    rintro e w' ⟨rfl, rfl⟩
    rw [h]
    go_wp2_with fail
    go_ret
    exact ⟨ret_bool (by simp [h]), rfl⟩
theorem seenP_c (n t k : Int) (w : World) :
    Calls Try.prog 107 #[.int .i64 n, .int .i64 t, .int .i64 k] w fun e w' => e = .returned (.bool (inI n 1 50 && inI t 0 n && inI k 0 t)) ∧ w = w' := by
  rcases Bool.eq_false_or_eq_true (inI n 1 50) with h | h
  · rcases Bool.eq_false_or_eq_true (inI t 0 n) with k | k
    · go_enter Try.func107, Try.ntmps107
      go_wp2_with fail
      refine (within_c _ _ _ _).mono ?_
      rintro e w' ⟨rfl, rfl⟩
      rw [h]
      go_wp2_with fail
      refine (within_c _ _ _ _).mono ?_
      rintro e w' ⟨rfl, rfl⟩
      rw [k]
      go_wp2_with fail
      refine (within_c _ _ _ _).mono ?_
      rintro e w' ⟨rfl, rfl⟩
      go_wp2_with fail
      go_ret
      exact ⟨ret_bool (by simp [h, k]), rfl⟩
    · go_enter Try.func107, Try.ntmps107
      go_wp2_with fail
      refine (within_c _ _ _ _).mono ?_
      rintro e w' ⟨rfl, rfl⟩
      rw [h]
      go_wp2_with fail
      refine (within_c _ _ _ _).mono ?_
      rintro e w' ⟨rfl, rfl⟩
      rw [k]
      go_wp2_with fail
      go_ret
      exact ⟨ret_bool (by simp [h, k]), rfl⟩
  · go_enter Try.func107, Try.ntmps107
    go_wp2_with fail
    refine (within_c _ _ _ _).mono ?_
    rintro e w' ⟨rfl, rfl⟩
    rw [h]
    go_wp2_with fail
    go_ret
    exact ⟨ret_bool (by simp [h]), rfl⟩
theorem AtMost_c (n m t k : Int) (w : World) :
    Calls Try.prog 49 #[.int .i64 n, .int .i64 m, .int .i64 t, .int .i64 k] w fun e w' => e = .returned (.tuple #[.int .i64 (atMostR n m t k).1, .int .i64 (atMostR n m t k).2]) ∧ Below w.heap.size w w' := by
  rcases Bool.eq_false_or_eq_true (inI n 1 50 && inI m 0 n) with h | h
  · rcases Bool.eq_false_or_eq_true (inI t 0 n) with ht | ht
    · have hn : (1 ≤ n ∧ n ≤ 50) ∧ 0 ≤ m ∧ m ≤ n := by simpa [inI] using h
      have ht' : 0 ≤ t ∧ t ≤ n := by simpa [inI] using ht
      by_cases hk : 0 ≤ k
      · rw [show atMostR n m t k = (atMostI n m t k, 0) by unfold atMostR; rw [h, ht, if_pos (by simp [hk])]]
        have H := Lib.hid h
        have HT := Lib.hid ht
        have d : decide (k < 0) = false := by simp; omega
        clear h ht
        go_enter Try.func49, Try.ntmps49
        go_wp2_with fail
        refine (badP_c _ _ _ _).mono ?_
        rintro e w' ⟨rfl, rfl⟩
        rw [H.out]
        go_wp2_with fail
        refine (within_c _ _ _ _).mono ?_
        rintro e w' ⟨rfl, rfl⟩
        rw [HT.out]
        go_wp2_with fail
        refine (upTo_c n m t k _ (by omega) (by omega) (by omega) (by omega) (by omega)).mono ?_
        rintro e w1 ⟨rfl, hb1⟩
        go_wp2_with fail
        go_ret2
        exact ⟨rfl, hb1⟩
      · rw [show atMostR n m t k = (0, 1) by unfold atMostR; rw [h, ht, if_neg (by simp [hk])]]
        have H := Lib.hid h
        have HT := Lib.hid ht
        have d : decide (k < 0) = true := by simp; omega
        clear h ht
        go_enter Try.func49, Try.ntmps49
        go_wp2_with fail
        refine (badP_c _ _ _ _).mono ?_
        rintro e w' ⟨rfl, rfl⟩
        rw [H.out]
        go_wp2_with fail
        refine (within_c _ _ _ _).mono ?_
        rintro e w' ⟨rfl, rfl⟩
        rw [HT.out]
        go_wp2_with fail
        go_ret2
        exact ⟨rfl, Below.refl _ _⟩
    · rw [show atMostR n m t k = (0, 1) by unfold atMostR; rw [h, ht, if_neg (by simp)]]
      have H := Lib.hid h
      have HT := Lib.hid ht
      clear h ht
      go_enter Try.func49, Try.ntmps49
      go_wp2_with fail
      refine (badP_c _ _ _ _).mono ?_
      rintro e w' ⟨rfl, rfl⟩
      rw [H.out]
      go_wp2_with fail
      refine (within_c _ _ _ _).mono ?_
      rintro e w' ⟨rfl, rfl⟩
      rw [HT.out]
      go_wp2_with fail
      go_ret2
      exact ⟨rfl, Below.refl _ _⟩
  · rw [show atMostR n m t k = (0, 1) by unfold atMostR; rw [h, if_neg (by simp)]]
    have H := Lib.hid h
    clear h
    go_enter Try.func49, Try.ntmps49
    go_wp2_with fail
    refine (badP_c _ _ _ _).mono ?_
    rintro e w' ⟨rfl, rfl⟩
    rw [H.out]
    go_wp2_with fail
    go_ret2
    exact ⟨rfl, Below.refl _ _⟩
theorem fewSeen_c (n t k : Int) (w : World) :
    Calls Try.prog 109 #[.int .i64 n, .int .i64 t, .int .i64 k] w fun e w' => e = .returned (.func (.func 141) #[] #[.pointer (some ⟨w.heap.size, 0, none⟩), .pointer (some ⟨w.heap.size + 1, 0, none⟩), .pointer (some ⟨w.heap.size + 1 + 1, 0, none⟩)]) ∧
      w' = ((w.alloc (.cells #[.int .i64 n] 3)).alloc (.cells #[.int .i64 t] 3)).alloc (.cells #[.int .i64 k] 3) := by
  go_enter Try.func109, Try.ntmps109
  go_wp2
  go_ret
  exact ⟨rfl, rfl⟩
theorem manySeen_c (n t k : Int) (w : World) :
    Calls Try.prog 111 #[.int .i64 n, .int .i64 t, .int .i64 k] w fun e w' => e = .returned (.func (.func 142) #[] #[.pointer (some ⟨w.heap.size, 0, none⟩), .pointer (some ⟨w.heap.size + 1, 0, none⟩), .pointer (some ⟨w.heap.size + 1 + 1, 0, none⟩)]) ∧
      w' = ((w.alloc (.cells #[.int .i64 n] 3)).alloc (.cells #[.int .i64 t] 3)).alloc (.cells #[.int .i64 k] 3) := by
  go_enter Try.func111, Try.ntmps111
  go_wp2
  go_ret
  exact ⟨rfl, rfl⟩
def fewV (n t k x : Int) : Value := rtV ⟨atMostI n x t k, chooseI n t⟩
def manyV (n t k x : Int) : Value := rtV ⟨chooseI n t - atMostI n x t (k - 1), chooseI n t⟩
theorem fewSeen_t {n t k : Int} {w : World} {b0 b1 b2 : Nat} (h0 : 0 ≤ t) (h1 : t ≤ n) (h2 : n ≤ 50)
    (c0 : w.cell? ⟨b0, 0, none⟩ = some (.int .i64 n)) (c1 : w.cell? ⟨b1, 0, none⟩ = some (.int .i64 t)) (c2 : w.cell? ⟨b2, 0, none⟩ = some (.int .i64 k)) (z0 : b0 < w.heap.size) (z1 : b1 < w.heap.size) (z2 : b2 < w.heap.size) :
    Tells Try.prog (.func (.func 141) #[] #[.pointer (some ⟨b0, 0, none⟩), .pointer (some ⟨b1, 0, none⟩), .pointer (some ⟨b2, 0, none⟩)]) (Value.int .i64) (numsL 0 n) (fewV n t k) w := by
  refine ⟨_, _, _, rfl, enters_of Try.func141 (by kernel_rfl) rfl, fun x W hx hb => ?_⟩
  have hx' := mem_nums.1 hx
  obtain ⟨x1, x2⟩ := hx'
  clear hx
  have e0 := (hb.cell (p := ⟨b0, 0, none⟩) z0).trans c0
  have e1 := (hb.cell (p := ⟨b1, 0, none⟩) z1).trans c1
  have e2 := (hb.cell (p := ⟨b2, 0, none⟩) z2).trans c2
  have hws := hb.size
  have y0 : b0 < W.heap.size + 1 := by omega
  have y1 : b1 < W.heap.size + 1 := by omega
  have y2 : b2 < W.heap.size + 1 := by omega
  have hy := heap_alloc_new W (.cells #[.int .i64 0, .int .i64 0] 138)
  have HY := Lib.hid hy
  have e0' := ((below_alloc W (.cells #[.int .i64 0, .int .i64 0] 138)).cell (p := ⟨b0, 0, none⟩) (show b0 < W.heap.size by omega)).trans e0
  have e1' := ((below_alloc W (.cells #[.int .i64 0, .int .i64 0] 138)).cell (p := ⟨b1, 0, none⟩) (show b1 < W.heap.size by omega)).trans e1
  have e2' := ((below_alloc W (.cells #[.int .i64 0, .int .i64 0] 138)).cell (p := ⟨b2, 0, none⟩) (show b2 < W.heap.size by omega)).trans e2
  show Calls _ _ #[.int .i64 x, .pointer (some ⟨b0, 0, none⟩), .pointer (some ⟨b1, 0, none⟩), .pointer (some ⟨b2, 0, none⟩)] W (fun e W' => e = .returned (fewV n t k x) ∧ Below W.heap.size W W')
  clear hb c0 c1 c2 z0 z1 z2 hy e0 e1 e2 hws
  go_enter Try.func141, Try.ntmps141
  go_wp2_with fail
  refine wp_region_grown_tail 9 (by kernel_rfl) (by kernel_rfl) fun hcg => ?_
  simp only [List.take_succ_cons, List.take_zero, List.drop_succ_cons, List.drop_zero]
  repeat (go_big_quiet_step (first | (go_at_call 75; exact Calls.grown (chooseP_b _ (by omega) (by omega) (by omega) (by omega))) | (go_at_call 113; exact Calls.grown (upTo_c _ _ _ _ _ (by omega) (by omega) (by omega) (by omega) (by omega)))))
  refine wpQuiet_nil ?_
  intro _ hw'
  obtain ⟨g, hw''⟩ := hw'
  subst hw''
  have hyg := (g.b.block W.heap.size (by simp)).trans HY.out
  have HP := Lib.hid (put2 (.int .i64 (atMostI n x t k)) (.int .i64 (chooseI n t)) hyg)
  have hB := below_then (below_alloc W (.cells #[.int .i64 0, .int .i64 0] 138)) g.b
  have f0 := Joins.unfrozen_of_block hyg 0
  have f1 := Joins.unfrozen_of_block hyg 1
  have k0 := Joins.cell_of_block hyg 0
  have k1 := Joins.cell_of_block hyg 1
  have hz := size_of_block hyg
  clear hcg hyg
  go_wp2
  refine bodyPost_ret (v := fewV n t k x) ?_ rfl ⟨rfl, (hB.setCell (Nat.le_refl _) _).setCell (Nat.le_refl _) _⟩
  simp [fewV, rtV, results, Try.results141, go_sem, HP.out.1, HP.out.2]
end Go.Proofs.Ytaaeipjnhjgjdaa
/- Upper and Lower, by package sample. -/
namespace Go.Proofs.Ytaaeipjnhjgjdaa
open Go Go.RowKit Go.Shelf

theorem manySeen_t {n t k : Int} {w : World} {b0 b1 b2 : Nat} (h0 : 0 ≤ t) (h1 : t ≤ n) (h2 : n ≤ 50) (hk0 : 0 ≤ k) (hk1 : k ≤ 50)
    (c0 : w.cell? ⟨b0, 0, none⟩ = some (.int .i64 n)) (c1 : w.cell? ⟨b1, 0, none⟩ = some (.int .i64 t)) (c2 : w.cell? ⟨b2, 0, none⟩ = some (.int .i64 k)) (z0 : b0 < w.heap.size) (z1 : b1 < w.heap.size) (z2 : b2 < w.heap.size) :
    Tells Try.prog (.func (.func 142) #[] #[.pointer (some ⟨b0, 0, none⟩), .pointer (some ⟨b1, 0, none⟩), .pointer (some ⟨b2, 0, none⟩)]) (Value.int .i64) (numsL 0 n) (manyV n t k) w := by
  refine ⟨_, _, _, rfl, enters_of Try.func142 (by kernel_rfl) rfl, fun x W hx hb => ?_⟩
  have hx' := mem_nums.1 hx
  obtain ⟨x1, x2⟩ := hx'
  clear hx
  have e0 := (hb.cell (p := ⟨b0, 0, none⟩) z0).trans c0
  have e1 := (hb.cell (p := ⟨b1, 0, none⟩) z1).trans c1
  have e2 := (hb.cell (p := ⟨b2, 0, none⟩) z2).trans c2
  have hws := hb.size
  have y0 : b0 < W.heap.size + 1 := by omega
  have y1 : b1 < W.heap.size + 1 := by omega
  have y2 : b2 < W.heap.size + 1 := by omega
  have hy := heap_alloc_new W (.cells #[.int .i64 0, .int .i64 0] 138)
  have HY := Lib.hid hy
  have e0' := ((below_alloc W (.cells #[.int .i64 0, .int .i64 0] 138)).cell (p := ⟨b0, 0, none⟩) (show b0 < W.heap.size by omega)).trans e0
  have e1' := ((below_alloc W (.cells #[.int .i64 0, .int .i64 0] 138)).cell (p := ⟨b1, 0, none⟩) (show b1 < W.heap.size by omega)).trans e1
  have e2' := ((below_alloc W (.cells #[.int .i64 0, .int .i64 0] 138)).cell (p := ⟨b2, 0, none⟩) (show b2 < W.heap.size by omega)).trans e2
  have a1 := atMost_le x1 x2 h0 (k - 1)
  obtain ⟨a1, a2⟩ := a1
  have a3 := chooseI_le t h2
  show Calls _ _ #[.int .i64 x, .pointer (some ⟨b0, 0, none⟩), .pointer (some ⟨b1, 0, none⟩), .pointer (some ⟨b2, 0, none⟩)] W (fun e W' => e = .returned (manyV n t k x) ∧ Below W.heap.size W W')
  clear hb c0 c1 c2 z0 z1 z2 hy e0 e1 e2 hws
  go_enter Try.func142, Try.ntmps142
  go_wp2_with fail
  refine (chooseP_b _ (by omega) (by omega) (by omega) (by omega)).mono ?_
  rintro e w1 ⟨rfl, hb1⟩
  have r0 := (hb1.cell (p := ⟨b0, 0, none⟩) (by simpa using y0)).trans e0'
  have r1 := (hb1.cell (p := ⟨b1, 0, none⟩) (by simpa using y1)).trans e1'
  have r2 := (hb1.cell (p := ⟨b2, 0, none⟩) (by simpa using y2)).trans e2'
  go_wp2_with fail
  refine (upTo_c _ _ _ _ _ (by omega) (by omega) (by omega) (by omega) (by omega)).mono ?_
  rintro e w2 ⟨rfl, hb2⟩
  have hb12 := below_then hb1 hb2
  have hyg := (hb12.block W.heap.size (by simp)).trans HY.out
  have HP := Lib.hid (put2 (.int .i64 (chooseI n t - atMostI n x t (k - 1))) (.int .i64 (chooseI n t)) hyg)
  have hB := below_then (below_alloc W (.cells #[.int .i64 0, .int .i64 0] 138)) hb12
  have f0 := Joins.unfrozen_of_block hyg 0
  have f1 := Joins.unfrozen_of_block hyg 1
  have k0 := Joins.cell_of_block hyg 0
  have k1 := Joins.cell_of_block hyg 1
  have hz := size_of_block hyg
  clear hyg
  go_wp2
  refine bodyPost_ret (v := manyV n t k x) ?_ rfl ⟨rfl, (hB.setCell (Nat.le_refl _) _).setCell (Nat.le_refl _) _⟩
  simp [manyV, rtV, results, Try.results142, go_sem, HP.out.1, HP.out.2]

theorem upperI_yes {n t k : Int} {r : Rt} {j : Nat} (h : chooseI n t * r.num ≤ atMostI n j t k * r.den) : upperI n t k r j = j := by
  cases j with
  | zero => rfl
  | succ j => rw [upperI, if_pos h]
theorem upperI_no {n t k : Int} {r : Rt} {j : Nat} (h0 : 0 < j) (h : ¬ chooseI n t * r.num ≤ atMostI n j t k * r.den) : upperI n t k r j = upperI n t k r (j - 1) := by
  obtain ⟨i, rfl⟩ : ∃ i, j = i + 1 := ⟨j - 1, by omega⟩
  rw [upperI, if_neg h]; rfl
set_option maxRecDepth 100000 in
theorem Upper_c (n t k : Int) (r : Rt) (w : World) :
    Calls Try.prog 47 #[.int .i64 n, .int .i64 t, .int .i64 k, rtV r] w fun e w' => e = .returned (.tuple #[.int .i64 (upperR n t k r).1, .int .i64 (upperR n t k r).2]) ∧ Below w.heap.size w w' := by
  unfold rtV
  rcases Bool.eq_false_or_eq_true (inI n 1 50 && inI t 0 n && inI k 0 t) with h | h
  · rcases Bool.eq_false_or_eq_true (levelB r) with hl | hl
    · have hn : ((1 ≤ n ∧ n ≤ 50) ∧ 0 ≤ t ∧ t ≤ n) ∧ 0 ≤ k ∧ k ≤ t := by simpa [inI] using h
      have hr := level_ok hl
      rw [show upperR n t k r = (upperI n t k r n.toNat, 0) by unfold upperR; rw [if_pos (by simp only [askB, h, hl]; rfl)]]
      have H := Lib.hid h
      have HL := Lib.hid hl
      clear h hl
      obtain ⟨⟨⟨n1, n2⟩, t1, t2⟩, k1, k2⟩ := hn
      obtain ⟨r1, r2, r3, r4⟩ := hr
      go_enter Try.func47, Try.ntmps47
      go_wp2_with fail
      refine (seenP_c _ _ _ _).mono ?_
      rintro e w' ⟨rfl, rfl⟩
      rw [H.out]
      go_wp2_with fail
      refine (levelP_c r _).mono ?_
      rintro e w1 ⟨rfl, hb1⟩
      rw [HL.out]
      have u0 := (hb1.block w.heap.size (by simp)).trans (heap_alloc_new w (.cells #[.int .i64 r.num, .int .i64 r.den] 53))
      have hB1 := below_then (below_alloc w (.cells #[.int .i64 r.num, .int .i64 r.den] 53)) hb1
      go_wp2_with fail
      refine (fewSeen_c _ _ _ _).mono ?_
      rintro e w2 ⟨rfl, rfl⟩
      obtain ⟨q0, q1, q2, qs, qb⟩ := three_new w1 (.cells #[.int .i64 n] 3) (.cells #[.int .i64 t] 3) (.cells #[.int .i64 k] 3)
      generalize ((w1.alloc (.cells #[.int .i64 n] 3)).alloc (.cells #[.int .i64 t] 3)).alloc (.cells #[.int .i64 k] 3) = W2 at q0 q1 q2 qs qb ⊢
      have hT := fewSeen_t t1 t2 n2 (Joins.cell_of_block q0 0) (Joins.cell_of_block q1 0) (Joins.cell_of_block q2 0) (by omega) (by omega) (by omega)
      have u2 := (qb.block _ (size_of_block u0)).trans u0
      have hB2 := below_then hB1 qb
      clear q0 q1 q2 hb1 qb u0 hB1
      obtain ⟨gt, bs, lc, hfv, et, ht⟩ := hT
      obtain ⟨rfl, rfl, rfl⟩ : gt = 141 ∧ bs = #[] ∧ lc = #[.pointer (some ⟨w1.heap.size, 0, none⟩), .pointer (some ⟨w1.heap.size + 1, 0, none⟩), .pointer (some ⟨w1.heap.size + 1 + 1, 0, none⟩)] := by
        cases hfv; exact ⟨rfl, rfl, rfl⟩
      go_wp2_with fail
      go_loopw [11] (fun i wr => ∃ j : Nat, (j : Int) ≤ n ∧ i = .int .i64 j ∧ Hid (upperI n t k r n.toNat = upperI n t k r j) ∧ Below W2.heap.size W2 wr) (fun i _ => (intOf i).toNat)
      case atStart => exact ⟨n.toNat, by omega, by congr 1; omega, rfl, Below.refl _ _⟩
      case round =>
        obtain ⟨j, hj, rfl, hu, hb⟩ := hrel
        have hws := hb.size
        have ur := (hb.block _ (size_of_block u2)).trans u2
        have cr0 := Joins.cell_of_block ur 0
        have cr1 := Joins.cell_of_block ur 1
        have hz := size_of_block ur
        have a0 := atMost_le (n := n) (m := (j : Int)) (by omega) hj t1 k
        obtain ⟨a1, a2⟩ := a0
        have a3 := chooseI_le t n2
        have a4 := chooseI_nonneg n t
        have hm : (j : Int) ∈ numsL 0 n := mem_nums.2 ⟨by omega, hj⟩
        by_cases hd : chooseI n t * r.num ≤ atMostI n j t k * r.den
        · have hd' : decide (chooseI n t * r.num ≤ atMostI n j t k * r.den) = true := decide_eq_true hd
          have hy := Lib.hid (upperI_yes hd)
          clear hd
          go_wp2_with fail
          refine wp_region_grown (by kernel_rfl) (by kernel_rfl) fun hcg => ?_
          repeat (go_big_quiet_step (fail))
          refine wpQuiet_value (.tmp 27) (.tmp 28) _ _ _ _ (.int .i64 j) (fewV n t k j) rfl rfl rfl rfl et (fun g => ht j g.val hm (below_then hb g.b)) ?_
          simp only [Act.put, List.setIfInBounds_toArray, List.set_cons_succ, List.set_cons_zero]
          repeat (go_big_quiet_step (first | (go_at_call 110; exact Calls.grown (atLeast_c _ _ r _ (by omega) (by omega) (by omega) (by omega) (by omega) (by omega) (by omega) (by omega)))))
          refine wpQuiet_nil ?_
          intro _ hw'
          obtain ⟨g, hw''⟩ := hw'
          subst hw''
          clear hcg
          go_wp2_with fail
          go_ret2
          exact ⟨by rw [hu.out, hy.out]; rfl, below_then hB2 (below_then hb g.b)⟩
        · have hd' : decide (chooseI n t * r.num ≤ atMostI n j t k * r.den) = false := decide_eq_false hd
          have hj0 : 0 < j := by
            rcases Nat.eq_zero_or_pos j with h | h
            · exfalso; apply hd; rw [h, show ((0 : Nat) : Int) = 0 from rfl, atMost_none t1 k1]; exact Int.mul_le_mul_of_nonneg_left r4 a4
            · exact h
          have hy := Lib.hid (upperI_no hj0 hd)
          clear hd
          go_wp2_with fail
          refine wp_region_grown (by kernel_rfl) (by kernel_rfl) fun hcg => ?_
          repeat (go_big_quiet_step (fail))
          refine wpQuiet_value (.tmp 27) (.tmp 28) _ _ _ _ (.int .i64 j) (fewV n t k j) rfl rfl rfl rfl et (fun g => ht j g.val hm (below_then hb g.b)) ?_
          simp only [Act.put, List.setIfInBounds_toArray, List.set_cons_succ, List.set_cons_zero]
          repeat (go_big_quiet_step (first | (go_at_call 110; exact Calls.grown (atLeast_c _ _ r _ (by omega) (by omega) (by omega) (by omega) (by omega) (by omega) (by omega) (by omega)))))
          refine wpQuiet_nil ?_
          intro _ hw'
          obtain ⟨g, hw''⟩ := hw'
          subst hw''
          clear hcg
          go_wp2_with fail
          go_roundw
          case rel => exact ⟨j - 1, by omega, by congr 1; omega, Lib.hid (hu.out.trans hy.out), below_then hb g.b⟩
          case measure => simp [intOf]; omega
    · rw [show upperR n t k r = (0, 1) by unfold upperR; rw [if_neg (by simp only [askB, h, hl]; simp)]]
      have H := Lib.hid h
      have HL := Lib.hid hl
      clear h hl
      go_enter Try.func47, Try.ntmps47
      go_wp2_with fail
      refine (seenP_c _ _ _ _).mono ?_
      rintro e w' ⟨rfl, rfl⟩
      rw [H.out]
      go_wp2_with fail
      refine (levelP_c r _).mono ?_
      rintro e w1 ⟨rfl, hb1⟩
      rw [HL.out]
      go_wp2_with fail
      go_ret2
      exact ⟨rfl, below_then (below_alloc _ _) hb1⟩
  · rw [show upperR n t k r = (0, 1) by unfold upperR; rw [if_neg (by simp only [askB, h]; simp)]]
    have H := Lib.hid h
    clear h
    go_enter Try.func47, Try.ntmps47
    go_wp2_with fail
    refine (seenP_c _ _ _ _).mono ?_
    rintro e w' ⟨rfl, rfl⟩
    rw [H.out]
    go_wp2_with fail
    go_ret2
    exact ⟨rfl, below_alloc _ _⟩
theorem lowerI_yes {n t k : Int} {r : Rt} {j : Nat} (h0 : 0 ≤ n) (hj : (j : Int) ≤ n) (h : chooseI n t * r.num ≤ (chooseI n t - atMostI n j t (k - 1)) * r.den) : lowerI n.toNat t k r (n.toNat - j) = j := by
  cases e : n.toNat - j with
  | zero => rw [lowerI]; omega
  | succ i =>
    have e2 : ((n.toNat : Nat) : Int) - ((i + 1 : Nat) : Int) = j := by omega
    rw [lowerI, e2, show ((n.toNat : Nat) : Int) = n by omega, if_pos h]
theorem lowerI_no {n t k : Int} {r : Rt} {j : Nat} (hj : (j : Int) < n) (h : ¬ chooseI n t * r.num ≤ (chooseI n t - atMostI n j t (k - 1)) * r.den) : lowerI n.toNat t k r (n.toNat - j) = lowerI n.toNat t k r (n.toNat - (j + 1)) := by
  obtain ⟨i, e⟩ : ∃ i, n.toNat - j = i + 1 := ⟨n.toNat - j - 1, by omega⟩
  have e2 : ((n.toNat : Nat) : Int) - ((i + 1 : Nat) : Int) = j := by omega
  rw [e, lowerI, e2, show ((n.toNat : Nat) : Int) = n by omega, if_neg h]
  congr 1; omega
set_option maxRecDepth 100000 in
theorem Lower_c (n t k : Int) (r : Rt) (w : World) :
    Calls Try.prog 48 #[.int .i64 n, .int .i64 t, .int .i64 k, rtV r] w fun e w' => e = .returned (.tuple #[.int .i64 (lowerR n t k r).1, .int .i64 (lowerR n t k r).2]) ∧ Below w.heap.size w w' := by
  unfold rtV
  rcases Bool.eq_false_or_eq_true (inI n 1 50 && inI t 0 n && inI k 0 t) with h | h
  · rcases Bool.eq_false_or_eq_true (levelB r) with hl | hl
    · have hn : ((1 ≤ n ∧ n ≤ 50) ∧ 0 ≤ t ∧ t ≤ n) ∧ 0 ≤ k ∧ k ≤ t := by simpa [inI] using h
      have hr := level_ok hl
      rw [show lowerR n t k r = (lowerI n.toNat t k r n.toNat, 0) by unfold lowerR; rw [if_pos (by simp only [askB, h, hl]; rfl)]]
      have H := Lib.hid h
      have HL := Lib.hid hl
      clear h hl
      obtain ⟨⟨⟨n1, n2⟩, t1, t2⟩, k1, k2⟩ := hn
      obtain ⟨r1, r2, r3, r4⟩ := hr
      go_enter Try.func48, Try.ntmps48
      go_wp2_with fail
      refine (seenP_c _ _ _ _).mono ?_
      rintro e w' ⟨rfl, rfl⟩
      rw [H.out]
      go_wp2_with fail
      refine (levelP_c r _).mono ?_
      rintro e w1 ⟨rfl, hb1⟩
      rw [HL.out]
      have u0 := (hb1.block w.heap.size (by simp)).trans (heap_alloc_new w (.cells #[.int .i64 r.num, .int .i64 r.den] 53))
      have hB1 := below_then (below_alloc w (.cells #[.int .i64 r.num, .int .i64 r.den] 53)) hb1
      go_wp2_with fail
      refine (manySeen_c _ _ _ _).mono ?_
      rintro e w2 ⟨rfl, rfl⟩
      obtain ⟨q0, q1, q2, qs, qb⟩ := three_new w1 (.cells #[.int .i64 n] 3) (.cells #[.int .i64 t] 3) (.cells #[.int .i64 k] 3)
      generalize ((w1.alloc (.cells #[.int .i64 n] 3)).alloc (.cells #[.int .i64 t] 3)).alloc (.cells #[.int .i64 k] 3) = W2 at q0 q1 q2 qs qb ⊢
      have hT := manySeen_t t1 t2 n2 k1 (by omega) (Joins.cell_of_block q0 0) (Joins.cell_of_block q1 0) (Joins.cell_of_block q2 0) (by omega) (by omega) (by omega)
      have u2 := (qb.block _ (size_of_block u0)).trans u0
      have hB2 := below_then hB1 qb
      clear q0 q1 q2 hb1 qb u0 hB1
      obtain ⟨gt, bs, lc, hfv, et, ht⟩ := hT
      obtain ⟨rfl, rfl, rfl⟩ : gt = 142 ∧ bs = #[] ∧ lc = #[.pointer (some ⟨w1.heap.size, 0, none⟩), .pointer (some ⟨w1.heap.size + 1, 0, none⟩), .pointer (some ⟨w1.heap.size + 1 + 1, 0, none⟩)] := by
        cases hfv; exact ⟨rfl, rfl, rfl⟩
      go_wp2_with fail
      go_loopw [11] (fun i wr => ∃ j : Nat, (j : Int) ≤ n ∧ i = .int .i64 j ∧ Hid (lowerI n.toNat t k r n.toNat = lowerI n.toNat t k r (n.toNat - j)) ∧ Below W2.heap.size W2 wr) (fun i _ => n.toNat - (intOf i).toNat)
      case atStart => exact ⟨0, by omega, rfl, Lib.hid (by rw [Nat.sub_zero]), Below.refl _ _⟩
      case round =>
        obtain ⟨j, hj, rfl, hu, hb⟩ := hrel
        have hws := hb.size
        have ur := (hb.block _ (size_of_block u2)).trans u2
        have cr0 := Joins.cell_of_block ur 0
        have cr1 := Joins.cell_of_block ur 1
        have hz := size_of_block ur
        have a0 := atMost_le (n := n) (m := (j : Int)) (by omega) hj t1 (k - 1)
        obtain ⟨a1, a2⟩ := a0
        have a3 := chooseI_le t n2
        have a4 := chooseI_nonneg n t
        have hm : (j : Int) ∈ numsL 0 n := mem_nums.2 ⟨by omega, hj⟩
        by_cases hd : chooseI n t * r.num ≤ (chooseI n t - atMostI n j t (k - 1)) * r.den
        · have hd' : decide (chooseI n t * r.num ≤ (chooseI n t - atMostI n j t (k - 1)) * r.den) = true := decide_eq_true hd
          have hy := Lib.hid (lowerI_yes (by omega) hj hd)
          clear hd
          go_wp2_with fail
          refine wp_region_grown (by kernel_rfl) (by kernel_rfl) fun hcg => ?_
          repeat (go_big_quiet_step (fail))
          refine wpQuiet_value (.tmp 26) (.tmp 27) _ _ _ _ (.int .i64 j) (manyV n t k j) rfl rfl rfl rfl et (fun g => ht j g.val hm (below_then hb g.b)) ?_
          simp only [Act.put, List.setIfInBounds_toArray, List.set_cons_succ, List.set_cons_zero]
          repeat (go_big_quiet_step (first | (go_at_call 110; exact Calls.grown (atLeast_c _ _ r _ (by omega) (by omega) (by omega) (by omega) (by omega) (by omega) (by omega) (by omega)))))
          refine wpQuiet_nil ?_
          intro _ hw'
          obtain ⟨g, hw''⟩ := hw'
          subst hw''
          clear hcg
          go_wp2_with fail
          go_ret2
          exact ⟨by rw [hu.out, hy.out]; rfl, below_then hB2 (below_then hb g.b)⟩
        · have hd' : decide (chooseI n t * r.num ≤ (chooseI n t - atMostI n j t (k - 1)) * r.den) = false := decide_eq_false hd
          have hlt : (j : Int) < n := by
            rcases Int.lt_or_le (j : Int) n with h | h
            · exact h
            · exfalso; apply hd
              have hjn : (j : Int) = n := by omega
              rw [hjn, atMost_every (by omega), Int.sub_zero]; exact Int.mul_le_mul_of_nonneg_left r4 a4
          have hy := Lib.hid (lowerI_no hlt hd)
          clear hd
          go_wp2_with fail
          refine wp_region_grown (by kernel_rfl) (by kernel_rfl) fun hcg => ?_
          repeat (go_big_quiet_step (fail))
          refine wpQuiet_value (.tmp 26) (.tmp 27) _ _ _ _ (.int .i64 j) (manyV n t k j) rfl rfl rfl rfl et (fun g => ht j g.val hm (below_then hb g.b)) ?_
          simp only [Act.put, List.setIfInBounds_toArray, List.set_cons_succ, List.set_cons_zero]
          repeat (go_big_quiet_step (first | (go_at_call 110; exact Calls.grown (atLeast_c _ _ r _ (by omega) (by omega) (by omega) (by omega) (by omega) (by omega) (by omega) (by omega)))))
          refine wpQuiet_nil ?_
          intro _ hw'
          obtain ⟨g, hw''⟩ := hw'
          subst hw''
          clear hcg
          go_wp2_with fail
          go_roundw
          case rel => exact ⟨j + 1, by omega, by go_num, Lib.hid (hu.out.trans hy.out), below_then hb g.b⟩
          case measure => simp [intOf]; omega
    · rw [show lowerR n t k r = (0, 1) by unfold lowerR; rw [if_neg (by simp only [askB, h, hl]; simp)]]
      have H := Lib.hid h
      have HL := Lib.hid hl
      clear h hl
      go_enter Try.func48, Try.ntmps48
      go_wp2_with fail
      refine (seenP_c _ _ _ _).mono ?_
      rintro e w' ⟨rfl, rfl⟩
      rw [H.out]
      go_wp2_with fail
      refine (levelP_c r _).mono ?_
      rintro e w1 ⟨rfl, hb1⟩
      rw [HL.out]
      go_wp2_with fail
      go_ret2
      exact ⟨rfl, below_then (below_alloc _ _) hb1⟩
  · rw [show lowerR n t k r = (0, 1) by unfold lowerR; rw [if_neg (by simp only [askB, h]; simp)]]
    have H := Lib.hid h
    clear h
    go_enter Try.func48, Try.ntmps48
    go_wp2_with fail
    refine (seenP_c _ _ _ _).mono ?_
    rintro e w' ⟨rfl, rfl⟩
    rw [H.out]
    go_wp2_with fail
    go_ret2
    exact ⟨rfl, below_alloc _ _⟩
end Go.Proofs.Ytaaeipjnhjgjdaa
/- Plans, by package sample. -/
namespace Go.Proofs.Ytaaeipjnhjgjdaa
open Go Go.RowKit Go.Shelf

theorem two_new (w : World) (o0 o1 : Obj) : ((w.alloc o0).alloc o1).heap[w.heap.size]? = some o0 ∧ ((w.alloc o0).alloc o1).heap[w.heap.size + 1]? = some o1 ∧ ((w.alloc o0).alloc o1).heap.size = w.heap.size + 2 ∧ Below w.heap.size w ((w.alloc o0).alloc o1) := by
  have a := heap_alloc_new w o0
  have b := heap_alloc_new (w.alloc o0) o1
  have k1 := below_alloc (w.alloc o0) o1
  simp only [World.size_alloc] at b k1
  refine ⟨?_, b, by simp only [World.size_alloc], below_then (below_alloc w o0) (below_alloc _ o1)⟩
  rw [k1.block _ (by omega)]; exact a
theorem passing_c (n m : Int) (w : World) :
    Calls Try.prog 115 #[.int .i64 n, .int .i64 m] w fun e w' => e = .returned (.func (.func 143) #[] #[.pointer (some ⟨w.heap.size, 0, none⟩), .pointer (some ⟨w.heap.size + 1, 0, none⟩)]) ∧
      w' = (w.alloc (.cells #[.int .i64 n] 3)).alloc (.cells #[.int .i64 m] 3) := by
  go_enter Try.func115, Try.ntmps115
  go_wp2
  go_ret
  exact ⟨rfl, rfl⟩
attribute [local go_sem] Rel RelAt RelUpon
set_option maxRecDepth 100000 in
theorem passing1_c (n m : Int) (q : Tr) {w : World} {b0 b1 : Nat} (h0 : 0 ≤ m) (h1 : m ≤ n) (h2 : n ≤ 50) (s0 : 0 ≤ q.sample) (s1 : q.sample ≤ n)
    (c0 : w.cell? ⟨b0, 0, none⟩ = some (.int .i64 n)) (c1 : w.cell? ⟨b1, 0, none⟩ = some (.int .i64 m)) (z0 : b0 < w.heap.size) (z1 : b1 < w.heap.size) :
    Calls Try.prog 143 #[trV q, .pointer (some ⟨b0, 0, none⟩), .pointer (some ⟨b1, 0, none⟩)] w fun e w' => e = .returned (fewV n q.sample q.accept m) ∧ Below w.heap.size w w' := by
  obtain ⟨q0, q1, qs, qb⟩ := two_new w (.cells #[.int .i64 q.sample, .int .i64 q.accept] 80) (.cells #[.int .i64 0, .int .i64 0] 138)
  unfold trV
  go_enter Try.func143, Try.ntmps143
  go_wp2_with fail
  generalize (w.alloc (.cells #[.int .i64 q.sample, .int .i64 q.accept] 80)).alloc (.cells #[.int .i64 0, .int .i64 0] 138) = W at q0 q1 qs qb ⊢
  have e0 := (qb.cell (p := ⟨b0, 0, none⟩) z0).trans c0
  have e1 := (qb.cell (p := ⟨b1, 0, none⟩) z1).trans c1
  have y0 : b0 < W.heap.size := by omega
  have y1 : b1 < W.heap.size := by omega
  have y2 : w.heap.size < W.heap.size := by omega
  have g0 := Joins.cell_of_block q0 0
  have g1 := Joins.cell_of_block q0 1
  clear c0 c1 z0 z1 q0
  have hqs := Lib.hid qs
  clear qs
  refine wp_region_picked [0, 1, 2, 3, 4, 6] [5, 7] [8] (by kernel_rfl) (by kernel_rfl) (by intro c a d v w h; cases d <;> exact h) fun hcg => ?_
  simp only [pick, List.filterMap_cons, List.filterMap_nil, List.getElem?_toArray, List.getElem?_cons_succ, List.getElem?_cons_zero]
  repeat (refine wpRel_step (fun K hK => ?_); go_simp; refine hK _ ?_; clear hK K)
  refine wpRel_nil fun g => ?_
  refine ⟨rfl, ?_⟩
  go_simp
  refine (fewSeen_c _ _ _ _).mono ?_
  rintro e w2 ⟨rfl, rfl⟩
  obtain ⟨p0, p1, p2, ps, pb⟩ := three_new g.val (.cells #[.int .i64 n] 3) (.cells #[.int .i64 q.sample] 3) (.cells #[.int .i64 q.accept] 3)
  generalize ((g.val.alloc (.cells #[.int .i64 n] 3)).alloc (.cells #[.int .i64 q.sample] 3)).alloc (.cells #[.int .i64 q.accept] 3) = W2 at p0 p1 p2 ps pb ⊢
  refine ⟨below_then g.b pb, fun u hu => ?_⟩
  obtain ⟨_, _, _, hfv, _, ht⟩ := fewSeen_t s0 s1 h2 (Joins.cell_of_block p0 0) (Joins.cell_of_block p1 0) (Joins.cell_of_block p2 0) (by omega) (by omega) (by omega)
  cases hfv
  refine ⟨rfl, ?_⟩
  go_simp
  refine (ht m u (mem_nums.2 ⟨h0, h1⟩) hu).mono ?_
  rintro e w3 ⟨rfl, hb3⟩
  refine ⟨below_then (below_then g.b pb) (below_then hu hb3), fun u2 hu2 => ?_⟩
  have hB : Below W.heap.size W u2 := below_then (below_then g.b pb) (below_then hu (below_then hb3 hu2))
  have hw1 : w.heap.size + 1 < W.heap.size := by have := hqs.out; omega
  have f := (hB.block _ hw1).trans q1
  have k0 := Joins.cell_of_block f 0
  have k1 := Joins.cell_of_block f 1
  have f0 := Joins.unfrozen_of_block f 0
  have f1 := Joins.unfrozen_of_block f 1
  have HP := Lib.hid (put2 (.int .i64 (atMostI n m q.sample q.accept)) (.int .i64 (chooseI n q.sample)) f)
  have hz := size_of_block f
  have hBu := below_then qb hB
  unfold fewV rtV
  show wpList _ _ _ _ _ _
  clear hcg q1 e0 e1 y0 y1 y2 g0 g1
  go_wp2
  refine bodyPost_ret (v := fewV n q.sample q.accept m) ?_ rfl ⟨rfl, (hBu.setCell (by simp) _).setCell (by simp) _⟩
  simp [fewV, rtV, results, Try.results143, go_sem, HP.out.1, HP.out.2]
theorem trialP_c (q : Tr) (n : Int) (w : World) :
    Calls Try.prog 122 #[trV q, .int .i64 n] w fun e w' => e = .returned (.bool (inI q.sample 0 n && inI q.accept 0 q.sample)) ∧ Below w.heap.size w w' := by
  unfold trV
  rcases Bool.eq_false_or_eq_true (inI q.sample 0 n) with h | h
  · have H := Lib.hid h
    clear h
    go_enter Try.func122, Try.ntmps122
    go_wp2_with fail
    refine (within_c _ _ _ _).mono ?_
    rintro e w' ⟨rfl, rfl⟩
    rw [H.out]
    go_wp2_with fail
    refine (within_c _ _ _ _).mono ?_
    rintro e w' ⟨rfl, rfl⟩
    go_wp2_with fail
    go_ret
    exact ⟨ret_bool (by simp [H.out]), below_alloc _ _⟩
  · have H := Lib.hid h
    clear h
    go_enter Try.func122, Try.ntmps122
    go_wp2_with fail
    refine (within_c _ _ _ _).mono ?_
    rintro e w' ⟨rfl, rfl⟩
    rw [H.out]
    go_wp2_with fail
    go_ret
    exact ⟨ret_bool (by simp [H.out]), below_alloc _ _⟩
set_option maxRecDepth 100000 in
theorem Pass_c (n m : Int) (q : Tr) (w : World) :
    Calls Try.prog 56 #[.int .i64 n, .int .i64 m, trV q] w fun e w' => e = .returned (.tuple #[rtV (passR n m q).1, .int .i64 (passR n m q).2]) ∧ Below w.heap.size w w' := by
  obtain ⟨q0, q1, qs, qb⟩ := two_new w (.cells #[.int .i64 q.sample, .int .i64 q.accept] 80) (.cells #[.int .i64 0, .int .i64 0] 53)
  have hqs := Lib.hid qs
  clear qs
  have QB := Lib.hid qb
  have Q0 := Lib.hid q0
  have Q1 := Lib.hid q1
  clear qb q0 q1
  unfold trV
  rcases Bool.eq_false_or_eq_true (inI n 1 50 && inI m 0 n) with h | h
  · rcases Bool.eq_false_or_eq_true (inI q.sample 0 n && inI q.accept 0 q.sample) with ht | ht
    · have hn : (1 ≤ n ∧ n ≤ 50) ∧ 0 ≤ m ∧ m ≤ n := by simpa [inI] using h
      have ht' : (0 ≤ q.sample ∧ q.sample ≤ n) ∧ 0 ≤ q.accept ∧ q.accept ≤ q.sample := by simpa [inI] using ht
      obtain ⟨⟨n1, n2⟩, m1, m2⟩ := hn
      obtain ⟨⟨s1, s2⟩, a1, a2⟩ := ht'
      rw [show passR n m q = (ratioI (atMostI n m q.sample q.accept) (chooseI n q.sample), 0) by unfold passR; rw [if_pos (by simp only [Bool.and_assoc] at h ht ⊢; simp only [← Bool.and_assoc] at h ⊢; rw [h, Bool.true_and, ht])]]
      have H := Lib.hid h
      have HT := Lib.hid ht
      clear h ht
      have am := atMost_le m1 m2 s1 q.accept
      obtain ⟨am1, am2⟩ := am
      have cl := chooseI_le q.sample n2
      have cp := chooseI_pos s2
      go_enter Try.func56, Try.ntmps56
      go_wp2_with fail
      refine (badP_c _ _ _ _).mono ?_
      rintro e w' ⟨rfl, rfl⟩
      rw [H.out]
      go_wp2_with fail
      refine (trialP_c q n _).mono ?_
      rintro e w1 ⟨rfl, hb1⟩
      rw [HT.out]
      have r0 := (hb1.block w.heap.size (by simp; omega)).trans Q0.out
      have r1 := (hb1.block (w.heap.size + 1) (by simp)).trans Q1.out
      have hB1 := below_then QB.out hb1
      clear hb1
      have g0 := Joins.cell_of_block r0 0
      have g1 := Joins.cell_of_block r0 1
      have z0 := size_of_block r0
      have z1 := size_of_block r1
      clear r0
      go_wp2_with fail
      refine wp_region_picked [0, 1, 3] [2, 4, 5] [6, 7] (by kernel_rfl) (by kernel_rfl) (by intro c a d v w h; cases d <;> exact h) fun hcg => ?_
      simp only [pick, List.filterMap_cons, List.filterMap_nil, List.getElem?_toArray, List.getElem?_cons_succ, List.getElem?_cons_zero]
      repeat (refine wpRel_step (fun K hK => ?_); go_simp; refine hK _ ?_; clear hK K)
      refine wpRel_nil fun g => ?_
      refine ⟨rfl, ?_⟩
      go_simp
      refine (passing_c _ _ _).mono ?_
      rintro e w2 ⟨rfl, rfl⟩
      obtain ⟨p0, p1, ps, pb⟩ := two_new g.val (.cells #[.int .i64 n] 3) (.cells #[.int .i64 m] 3)
      generalize (g.val.alloc (.cells #[.int .i64 n] 3)).alloc (.cells #[.int .i64 m] 3) = W2 at p0 p1 ps pb ⊢
      refine ⟨below_then g.b pb, fun u hu => ?_⟩
      have hus := hu.size
      refine ⟨rfl, ?_⟩
      go_simp
      refine (passing1_c n m q m1 m2 n2 s1 s2 ((hu.cell (p := ⟨g.val.heap.size, 0, none⟩) (show g.val.heap.size < W2.heap.size by omega)).trans (Joins.cell_of_block p0 0)) ((hu.cell (p := ⟨g.val.heap.size + 1, 0, none⟩) (show g.val.heap.size + 1 < W2.heap.size by omega)).trans (Joins.cell_of_block p1 0)) (by omega) (by omega)).mono ?_
      rintro e w3 ⟨rfl, hb3⟩
      have hB3 := below_then (below_then g.b pb) (below_then hu hb3)
      refine ⟨hB3, fun u2 hu2 => ?_⟩
      refine ⟨rfl, ?_⟩
      unfold fewV
      go_simp
      refine (ratioP_c _ _ _ (by omega) (by omega) (by omega) (by omega)).mono ?_
      rintro e w4 ⟨rfl, hb4⟩
      have hB4 := below_then hB3 (below_then hu2 hb4)
      refine ⟨hB4, fun u3 hu3 => ?_⟩
      have hB : Below w1.heap.size w1 u3 := below_then hB4 hu3
      have f := (hB.block _ z1).trans r1
      have k0 := Joins.cell_of_block f 0
      have k1 := Joins.cell_of_block f 1
      have f0 := Joins.unfrozen_of_block f 0
      have f1 := Joins.unfrozen_of_block f 1
      have HP := Lib.hid (put2 (.int .i64 (ratioI (atMostI n m q.sample q.accept) (chooseI n q.sample)).num) (.int .i64 (ratioI (atMostI n m q.sample q.accept) (chooseI n q.sample)).den) f)
      have hz := size_of_block f
      have hBu := below_then hB1 hB
      unfold rtV
      generalize hR : ratioI (atMostI n m q.sample q.accept) (chooseI n q.sample) = R at HP ⊢
      show wpList _ _ _ _ _ _
      clear hcg z0 g0 g1 r1 z1
      go_wp2
      refine bodyPost_ret (v := .tuple #[rtV R, .int .i64 0]) ?_ rfl ⟨by rw [hR], (hBu.setCell (by simp) _).setCell (by simp) _⟩
      simp [rtV, results, Try.results56, go_sem, HP.out.1, HP.out.2]
    · rw [show passR n m q = (⟨0, 0⟩, 1) by unfold passR; rw [if_neg (by simp only [Bool.and_assoc] at h ht ⊢; simp only [← Bool.and_assoc] at h ⊢; rw [h, Bool.true_and, ht]; simp)]]
      have H := Lib.hid h
      have HT := Lib.hid ht
      clear h ht
      go_enter Try.func56, Try.ntmps56
      go_wp2_with fail
      refine (badP_c _ _ _ _).mono ?_
      rintro e w' ⟨rfl, rfl⟩
      rw [H.out]
      go_wp2_with fail
      refine (trialP_c q n _).mono ?_
      rintro e w1 ⟨rfl, hb1⟩
      rw [HT.out]
      have f := (hb1.block (w.heap.size + 1) (by simp)).trans Q1.out
      have hBu := below_then QB.out hb1
      have k0 := Joins.cell_of_block f 0
      have k1 := Joins.cell_of_block f 1
      have f0 := Joins.unfrozen_of_block f 0
      have f1 := Joins.unfrozen_of_block f 1
      have HP := Lib.hid (put2 (.int .i64 0) (.int .i64 0) f)
      have hz := size_of_block f
      clear hb1
      go_wp2_with fail
      refine bodyPost_ret (v := .tuple #[rtV ⟨0, 0⟩, .int .i64 1]) ?_ rfl ⟨rfl, (hBu.setCell (by simp) _).setCell (by simp) _⟩
      simp [rtV, results, Try.results56, go_sem, HP.out.1, HP.out.2]
  · rw [show passR n m q = (⟨0, 0⟩, 1) by unfold passR; rw [if_neg (by simp only [Bool.and_assoc] at h ⊢; simp only [← Bool.and_assoc] at h ⊢; rw [h]; simp)]]
    have H := Lib.hid h
    clear h
    have f := Q1.out
    have hBu := QB.out
    have k0 := Joins.cell_of_block f 0
    have k1 := Joins.cell_of_block f 1
    have f0 := Joins.unfrozen_of_block f 0
    have f1 := Joins.unfrozen_of_block f 1
    have hz := size_of_block f
    go_enter Try.func56, Try.ntmps56
    go_wp2_with fail
    refine (badP_c _ _ _ _).mono ?_
    rintro e w' ⟨rfl, rfl⟩
    rw [H.out]
    go_wp2_with fail
    refine bodyPost_ret (v := .tuple #[rtV ⟨0, 0⟩, .int .i64 1]) ?_ rfl ⟨rfl, ?_⟩
    · simp [rtV, results, Try.results56, go_sem]
    · exact hBu
end Go.Proofs.Ytaaeipjnhjgjdaa
/- The wholes of a batch, yielded one by one. -/
namespace Go.Proofs.Ytaaeipjnhjgjdaa
open Go Go.RowKit Go.Shelf

theorem two_new' (w : World) (o0 o1 : Obj) : ((w.alloc o0).alloc o1).heap[w.heap.size]? = some o0 ∧ ((w.alloc o0).alloc o1).heap[w.heap.size + 1]? = some o1 ∧ ((w.alloc o0).alloc o1).heap.size = w.heap.size + 2 ∧ Below w.heap.size w ((w.alloc o0).alloc o1) := by
  have a := heap_alloc_new w o0
  have b := heap_alloc_new (w.alloc o0) o1
  have k1 := below_alloc (w.alloc o0) o1
  simp only [World.size_alloc] at b k1
  refine ⟨?_, b, by simp only [World.size_alloc], below_then (below_alloc w o0) (below_alloc _ o1)⟩
  rw [k1.block _ (by omega)]; exact a
set_option maxRecDepth 100000 in
theorem allowed_c (b : Bt) (s : Int) (w : World) (hs : s = 0 ∨ s = 1 ∨ s = 2) :
    Calls Try.prog 137 #[btV b, .int .i64 s] w fun e w' => e = .returned (spV (allowedI b s)) ∧ Below w.heap.size w w' := by
  obtain ⟨q0, q1, qs, qb⟩ := two_new' w (.cells (btC b) 34) (.cells #[.int .i64 0, .int .i64 0] 31)
  unfold btC at q0 q1 qs qb
  unfold btV
  rcases hs with rfl | rfl | rfl
  all_goals
    go_enter Try.func137, Try.ntmps137
    go_wp2_with fail
    generalize (w.alloc _).alloc _ = W1 at q0 q1 qs qb ⊢
    have g0 := Joins.cell_of_block q0 0
    have g1 := Joins.cell_of_block q0 1
    have g2 := Joins.cell_of_block q0 2
    have g3 := Joins.cell_of_block q0 3
    have g4 := Joins.cell_of_block q0 4
    have g5 := Joins.cell_of_block q0 5
    have g6 := Joins.cell_of_block q0 6
    have g7 := Joins.cell_of_block q0 7
    have g8 := Joins.cell_of_block q0 8
    have g9 := Joins.cell_of_block q0 9
    have z0 := size_of_block q0
    clear q0
    refine wp_region_grown_tail 16 (by kernel_rfl) (by kernel_rfl) fun hcg => ?_
    simp only [List.take_succ_cons, List.take_zero, List.drop_succ_cons, List.drop_zero]
    repeat (go_big_quiet_step (fail))
    refine wpQuiet_nil ?_
    intro _ hw'
    obtain ⟨g, hw''⟩ := hw'
    subst hw''
    have hyg := (g.b.block _ (size_of_block q1)).trans q1
    have hB := Lib.hid (below_then qb g.b)
    have f0 := Joins.unfrozen_of_block hyg 0
    have f1 := Joins.unfrozen_of_block hyg 1
    have k0 := Joins.cell_of_block hyg 0
    have k1 := Joins.cell_of_block hyg 1
    have hz := size_of_block hyg
    have HP := Lib.hid fun x y => put2 x y hyg
    clear hcg q1 qs qb g0 g1 g2 g3 g4 g5 g6 g7 g8 g9 z0
    go_wp2
    refine bodyPost_ret ?_ rfl ⟨rfl, (hB.out.setCell (by simp) _).setCell (by simp) _⟩
    simp [spV, allowedI, K3.get, Bt.known, results, Try.results137, go_sem, (HP.out _ _).1, (HP.out _ _).2]
end Go.Proofs.Ytaaeipjnhjgjdaa
/- The second sample of a plan: what it asks, by package sample. -/
namespace Go.Proofs.Ytaaeipjnhjgjdaa
open Go Go.RowKit Go.Shelf

theorem inI_spec {x lo hi : Int} (h : inI x lo hi = true) : lo ≤ x ∧ x ≤ hi := by simpa [inI] using h
def doubleB (d : Db) (n : Int) : Bool := inI d.first 0 n && (inI d.second 0 (n - d.first) && (inI d.refuse 1 (d.first + 1) && (inI d.accept 0 (d.refuse - 1) && inI d.together d.accept (d.first + d.second))))
theorem double_eq {n m : Int} {d : Db} : twiceB n m d = (inI n 1 36 && inI m 0 n && doubleB d n) := by
  rw [Bool.eq_iff_iff]
  simp only [twiceB, doubleB, inI, Bool.and_eq_true, decide_eq_true_eq, Bool.not_eq_true', decide_eq_false_iff_not]
  omega
set_option maxRecDepth 100000 in
theorem isDouble_c (d : Db) (n : Int) (w : World) (hn : 1 ≤ n) (hn2 : n ≤ 36) : Calls Try.prog 123 #[dbV d, .int .i64 n] w fun e w' => e = .returned (.bool (doubleB d n)) ∧ Below w.heap.size w w' := by
  unfold dbV
  rcases Bool.eq_false_or_eq_true (inI d.first 0 n) with h0 | h0
  · have H0 := Lib.hid h0
    have a0 := inI_spec h0
    obtain ⟨a0, c0⟩ := a0
    clear h0
    rcases Bool.eq_false_or_eq_true (inI d.second 0 (n - d.first)) with h1 | h1
    · have H1 := Lib.hid h1
      have a1 := inI_spec h1
      obtain ⟨a1, c1⟩ := a1
      clear h1
      rcases Bool.eq_false_or_eq_true (inI d.refuse 1 (d.first + 1)) with h2 | h2
      · have H2 := Lib.hid h2
        have a2 := inI_spec h2
        obtain ⟨a2, c2⟩ := a2
        clear h2
        rcases Bool.eq_false_or_eq_true (inI d.accept 0 (d.refuse - 1)) with h3 | h3
        · have H3 := Lib.hid h3
          have a3 := inI_spec h3
          obtain ⟨a3, c3⟩ := a3
          clear h3
          go_enter Try.func123, Try.ntmps123
          go_wp2_with fail
          refine (within_c _ _ _ _).mono ?_
          rintro e w' ⟨rfl, rfl⟩
          rw [H0.out]
          go_wp2_with fail
          refine (within_c _ _ _ _).mono ?_
          rintro e w' ⟨rfl, rfl⟩
          rw [H1.out]
          go_wp2_with fail
          refine (within_c _ _ _ _).mono ?_
          rintro e w' ⟨rfl, rfl⟩
          rw [H2.out]
          go_wp2_with fail
          refine (within_c _ _ _ _).mono ?_
          rintro e w' ⟨rfl, rfl⟩
          rw [H3.out]
          go_wp2_with fail
          refine (within_c _ _ _ _).mono ?_
          rintro e w' ⟨rfl, rfl⟩
          go_wp2_with fail
          go_ret
          exact ⟨ret_bool (by simp [doubleB, H0.out, H1.out, H2.out, H3.out]), below_alloc _ _⟩
        · have H3 := Lib.hid h3
          clear h3
          go_enter Try.func123, Try.ntmps123
          go_wp2_with fail
          refine (within_c _ _ _ _).mono ?_
          rintro e w' ⟨rfl, rfl⟩
          rw [H0.out]
          go_wp2_with fail
          refine (within_c _ _ _ _).mono ?_
          rintro e w' ⟨rfl, rfl⟩
          rw [H1.out]
          go_wp2_with fail
          refine (within_c _ _ _ _).mono ?_
          rintro e w' ⟨rfl, rfl⟩
          rw [H2.out]
          go_wp2_with fail
          refine (within_c _ _ _ _).mono ?_
          rintro e w' ⟨rfl, rfl⟩
          rw [H3.out]
          go_wp2_with fail
          go_ret
          exact ⟨ret_bool (by simp [doubleB, H0.out, H1.out, H2.out, H3.out]), below_alloc _ _⟩
      · have H2 := Lib.hid h2
        clear h2
        go_enter Try.func123, Try.ntmps123
        go_wp2_with fail
        refine (within_c _ _ _ _).mono ?_
        rintro e w' ⟨rfl, rfl⟩
        rw [H0.out]
        go_wp2_with fail
        refine (within_c _ _ _ _).mono ?_
        rintro e w' ⟨rfl, rfl⟩
        rw [H1.out]
        go_wp2_with fail
        refine (within_c _ _ _ _).mono ?_
        rintro e w' ⟨rfl, rfl⟩
        rw [H2.out]
        go_wp2_with fail
        go_ret
        exact ⟨ret_bool (by simp [doubleB, H0.out, H1.out, H2.out]), below_alloc _ _⟩
    · have H1 := Lib.hid h1
      clear h1
      go_enter Try.func123, Try.ntmps123
      go_wp2_with fail
      refine (within_c _ _ _ _).mono ?_
      rintro e w' ⟨rfl, rfl⟩
      rw [H0.out]
      go_wp2_with fail
      refine (within_c _ _ _ _).mono ?_
      rintro e w' ⟨rfl, rfl⟩
      rw [H1.out]
      go_wp2_with fail
      go_ret
      exact ⟨ret_bool (by simp [doubleB, H0.out, H1.out]), below_alloc _ _⟩
  · have H0 := Lib.hid h0
    clear h0
    go_enter Try.func123, Try.ntmps123
    go_wp2_with fail
    refine (within_c _ _ _ _).mono ?_
    rintro e w' ⟨rfl, rfl⟩
    rw [H0.out]
    go_wp2_with fail
    go_ret
    exact ⟨ret_bool (by simp [doubleB, H0.out]), below_alloc _ _⟩
def furtherI (d : Db) (k : Int) : Int := if k ≤ d.accept then d.second else if d.refuse ≤ k then -1 else d.together - k
theorem further_c (d : Db) (k : Int) (w : World) (h1 : 0 ≤ k) (h2 : k ≤ 50) (h3 : 0 ≤ d.together) (h4 : d.together ≤ 100) : Calls Try.prog 128 #[dbV d, .int .i64 k] w fun e w' => e = .returned (.int .i64 (furtherI d k)) ∧ Below w.heap.size w w' := by
  unfold dbV
  by_cases a : k ≤ d.accept
  · have da : decide (k ≤ d.accept) = true := decide_eq_true a
    go_enter Try.func128, Try.ntmps128
    go_wp2_with fail
    go_ret
    exact ⟨ret_int (by unfold furtherI; rw [if_pos a]), below_alloc _ _⟩
  · have HA := Lib.hid a
    have da : decide (k ≤ d.accept) = false := decide_eq_false a
    clear a
    by_cases c : d.refuse ≤ k
    · have HC := Lib.hid c
      have dc : decide (d.refuse ≤ k) = true := decide_eq_true c
      clear c
      go_enter Try.func128, Try.ntmps128
      go_wp2_with fail
      go_ret
      exact ⟨ret_int (by unfold furtherI; rw [if_neg (by have := HA.out; omega), if_pos (by have := HC.out; omega)]), below_alloc _ _⟩
    · have HC := Lib.hid c
      have dc : decide (d.refuse ≤ k) = false := decide_eq_false c
      clear c
      go_enter Try.func128, Try.ntmps128
      go_wp2_with fail
      go_ret
      exact ⟨ret_int (by unfold furtherI; rw [if_neg (by have := HA.out; omega), if_neg (by have := HC.out; omega)]), below_alloc _ _⟩
end Go.Proofs.Ytaaeipjnhjgjdaa
/- The ways of two samples with so many in the first, by package sample. -/
namespace Go.Proofs.Ytaaeipjnhjgjdaa
open Go Go.RowKit Go.Shelf

set_option maxRecDepth 100000 in
theorem twice1_t {n m : Int} {d : Db} {w : World} {bf bl bm bd j0 j1 j2 : Nat} (h0 : 0 ≤ m) (h1 : m ≤ n) (h2 : n ≤ 36) (f0 : 0 ≤ d.first) (s0 : 0 ≤ d.second) (s1 : d.second ≤ n - d.first) (t0 : 0 ≤ d.together) (t1 : d.together ≤ 100)
    (hT : Tells Try.prog (.func (.func 145) #[] #[.pointer (some ⟨j1, 0, none⟩), .pointer (some ⟨j0, 0, none⟩), .pointer (some ⟨j2, 0, none⟩)]) (Value.int .i64) (numsL (foundLo n m d.first) (foundHi m d.first)) (fun x => .int .i64 (hit n m d.first x.toNat)) w)
    (qf : w.heap[bf]? = some (.cells #[.func (.func 145) #[] #[.pointer (some ⟨j1, 0, none⟩), .pointer (some ⟨j0, 0, none⟩), .pointer (some ⟨j2, 0, none⟩)]] 134)) (ql : w.heap[bl]? = some (.cells #[.int .i64 (n - d.first)] 3)) (qm : w.heap[bm]? = some (.cells #[.int .i64 m] 3))
    (qd : w.heap[bd]? = some (.cells #[.int .i64 d.first, .int .i64 d.accept, .int .i64 d.refuse, .int .i64 d.second, .int .i64 d.together] 92)) (hp : ∀ x, foundLo n m d.first ≤ x → x ≤ foundHi m d.first → 0 ≤ hit n m d.first x.toNat * atMostI (n - d.first) (m - x) d.second (furtherI d x) ∧ hit n m d.first x.toNat * atMostI (n - d.first) (m - x) d.second (furtherI d x) ≤ 4611686018427387904) :
    Tells Try.prog (.func (.func 127) #[] #[.pointer (some ⟨bf, 0, none⟩), .pointer (some ⟨bl, 0, none⟩), .pointer (some ⟨bm, 0, none⟩), .pointer (some ⟨bd, 0, none⟩)]) (Value.int .i64) (numsL (foundLo n m d.first) (foundHi m d.first)) (fun x => .int .i64 (hit n m d.first x.toNat * atMostI (n - d.first) (m - x) d.second (furtherI d x))) w := by
  refine ⟨_, _, _, rfl, enters_of Try.func127 (by kernel_rfl) rfl, fun x W hx hb => ?_⟩
  have hx' := mem_nums.1 hx
  obtain ⟨x1, x2⟩ := hx'
  obtain ⟨p0, p1⟩ := hp x x1 (by omega)
  have x3 : 0 ≤ x := by unfold foundLo at x1; omega
  have x4 : x ≤ m := by unfold foundHi at x2; omega
  have x5 : m - x ≤ n - d.first := by unfold foundLo at x1; omega
  obtain ⟨_, _, _, hfv, _, ht⟩ := hT
  cases hfv
  have HT := Lib.hid (fun W' h => ht x W' hx h)
  have e0 := (hb.cell (p := ⟨bf, 0, none⟩) (size_of_block qf)).trans (Joins.cell_of_block qf 0)
  have e1 := (hb.cell (p := ⟨bl, 0, none⟩) (size_of_block ql)).trans (Joins.cell_of_block ql 0)
  have e2 := (hb.cell (p := ⟨bm, 0, none⟩) (size_of_block qm)).trans (Joins.cell_of_block qm 0)
  have g0 := (hb.cell (p := ⟨bd, 0, none⟩) (size_of_block qd)).trans (Joins.cell_of_block qd 0)
  have g1 := (hb.cell (p := ⟨bd, 1, none⟩) (size_of_block qd)).trans (Joins.cell_of_block qd 1)
  have g2 := (hb.cell (p := ⟨bd, 2, none⟩) (size_of_block qd)).trans (Joins.cell_of_block qd 2)
  have g3 := (hb.cell (p := ⟨bd, 3, none⟩) (size_of_block qd)).trans (Joins.cell_of_block qd 3)
  have g4 := (hb.cell (p := ⟨bd, 4, none⟩) (size_of_block qd)).trans (Joins.cell_of_block qd 4)
  have y0 : bf < W.heap.size := Nat.lt_of_lt_of_le (size_of_block qf) hb.size
  have y1 : bl < W.heap.size := Nat.lt_of_lt_of_le (size_of_block ql) hb.size
  have y2 : bm < W.heap.size := Nat.lt_of_lt_of_le (size_of_block qm) hb.size
  have y3 : bd < W.heap.size := Nat.lt_of_lt_of_le (size_of_block qd) hb.size
  clear hx ht qf ql qm qd hp x1 x2
  show Calls _ _ #[.int .i64 x, .pointer (some ⟨bf, 0, none⟩), .pointer (some ⟨bl, 0, none⟩), .pointer (some ⟨bm, 0, none⟩), .pointer (some ⟨bd, 0, none⟩)] W (fun e W' => e = .returned (.int .i64 (hit n m d.first x.toNat * atMostI (n - d.first) (m - x) d.second (furtherI d x))) ∧ Below W.heap.size W W')
  go_enter Try.func127, Try.ntmps127
  go_wp2_with fail
  refine wp_region_grown (by kernel_rfl) (by kernel_rfl) fun hcg => ?_
  repeat (go_big_quiet_step (first | (go_at_call 145; exact Calls.grown (HT.out _ (below_then hb (Gr.b _)))) | (go_at_call 128; exact Calls.grown (further_c d x _ (by omega) (by omega) (by omega) (by omega))) | (go_at_call 113; exact Calls.grown (upTo_c _ _ _ _ _ (by omega) (by omega) (by omega) (by omega) (by omega)))))
  refine wpQuiet_nil ?_
  intro _ hw'
  obtain ⟨g, hw''⟩ := hw'
  subst hw''
  go_wp2_with fail
  go_ret
  exact ⟨rfl, g.b⟩
end Go.Proofs.Ytaaeipjnhjgjdaa
/- The pairs of samples that are accepted: the sum over what the first one may hold. -/
namespace Go.Proofs.Ytaaeipjnhjgjdaa
open Go Go.RowKit Go.Shelf

theorem atMost_full {n m t : Int} (h0 : 0 ≤ m) (h1 : m ≤ n) (ht : 0 ≤ t) : atMostI n m t t = chooseI n t := by
  obtain ⟨m, rfl⟩ := Int.eq_ofNat_of_zero_le h0
  obtain ⟨t, rfl⟩ := Int.eq_ofNat_of_zero_le ht
  obtain ⟨n, rfl⟩ := Int.eq_ofNat_of_zero_le (by omega : 0 ≤ n)
  have := hits_all (n := n) (m := m) (t := t) (by omega)
  unfold atMostI chooseI
  rw [show (min (t : Int) t + 1).toNat = t + 1 by omega, this, Int.toNat_natCast, Int.toNat_natCast]
theorem atMost_neg {n m t k : Int} (hk : k < 0) : atMostI n m t k = 0 := by
  unfold atMostI
  rw [show (min t k + 1).toNat = 0 by omega]; rfl
theorem twT_eq {n m : Int} {d : Db} (h0 : 0 ≤ m) (h1 : m ≤ n) (s0 : 0 ≤ d.second) (ha : d.accept < d.refuse) {x : Int} (hx : 0 ≤ x) :
    hit n m d.first x.toNat * atMostI (n - d.first) (m - x) d.second (furtherI d x) = twT n m d x.toNat := by
  have e : ((x.toNat : Nat) : Int) = x := by omega
  unfold twT
  by_cases hh : hit n m d.first x.toNat = 0
  · rw [if_pos hh, hh, Int.zero_mul]
  · have hp := hit_pos h0 h1 hh
    rw [e] at hp
    rw [if_neg hh, e]
    unfold furtherI
    by_cases h2 : d.refuse ≤ x
    · rw [if_pos h2, if_neg (by omega), if_pos h2, atMost_neg (by omega), Int.mul_zero]
    · rw [if_neg h2]
      by_cases h3 : x ≤ d.accept
      · rw [if_pos h3, if_neg h2, if_pos h3, atMost_full hp.1 hp.2 s0]
      · rw [if_neg h3, if_neg h2, if_neg h3]
        by_cases h4 : x ≤ d.together
        · rw [if_pos h4]
        · rw [if_neg h4, atMost_neg (by omega), Int.mul_zero]
theorem twice_sum {n m : Int} {d : Db} (h0 : 0 ≤ m) (h1 : m ≤ n) (f0 : 0 ≤ d.first) :
    sumL (fun x => twT n m d x.toNat) (numsL (foundLo n m d.first) (foundHi m d.first)) = sumI (twT n m d) (d.first + 1).toNat := by
  refine sumL_nums (by unfold foundLo; omega) (by unfold foundHi; omega) fun i hi h => ?_
  unfold twT
  rw [if_pos (hit_out h0 h1 h (by omega))]
end Go.Proofs.Ytaaeipjnhjgjdaa
/- A slice of spans, one by one, and sums of its ends, by package sample. -/
namespace Go.Proofs.Ytaaeipjnhjgjdaa
open Go Go.RowKit Go.Shelf
attribute [local go_sem] Oper.semAt_some

def encS (x : Sp) : Array Value := #[spV x]
set_option maxRecDepth 100000 in
set_option maxHeartbeats 2000000 in
theorem values1_c (l Bs n₀ B : Nat) (U : List TypeId) (v : Value) (xs : List Sp) (J Jx : List Sp → World → Prop) (W : World) (hv : Sps W n₀ v xs) (hn : n₀ ≤ W.heap.size) (oJ : OwnFrom W.heap.size J)
    (hY : ∀ pre x W1, J pre W1 → pre ++ [x] <+: xs → YieldAt Fence.wide 0 Try.prog l (encS x) W1 fun e W' =>
        (e = .returned (.bool true) ∧ J (pre ++ [x]) W' ∧ Kp n₀ B U W1 W' ∧ KeepsFrom W.heap.size W1 W') ∨ (e = .returned (.bool false) ∧ Jx (pre ++ [x]) W' ∧ KeepsFrom W.heap.size W1 W'))
    (h0 : W.heap[Bs]? = some (.cells #[v] 99)) (hJ : J [] W) :
    Calls Try.prog 150 (#[.func (.yield l) #[] #[], .pointer (some ⟨Bs, 0, none⟩)]) W fun e W' => (∃ u, e = .returned u) ∧ (J xs W' ∨ ∃ pre, pre <+: xs ∧ Jx pre W') := by
  obtain ⟨A, cap, rfl, hcap, hlen, hat⟩ := hv.open_
  have H := Lib.hid hat
  clear hat hv
  have c00 := Joins.cell_of_block h0 0
  have hz := size_of_block h0
  (refine (callsIn_wide (n := 9)).1 (callsIn_of_wp Try.func150 rfl trivial ?_ rfl); simp only [Try.ntmps150, List.size_toArray, List.length_cons, List.length_nil, Nat.reduceAdd, Nat.reduceSub, Array.replicate_succ, Array.replicate_zero, List.push_toArray, List.append_toArray, List.nil_append, List.cons_append])
  gi_wp2
  gi_loopw [7] (fun i wr => ∃ j : Nat, i = .int .i64 j ∧ j ≤ xs.length ∧ J (xs.take j) wr ∧ Hid (Below n₀ W wr ∧ W.heap.size ≤ wr.heap.size)) (fun i _ => xs.length - (intOf i).toNat)
  case atStart => exact ⟨0, rfl, by omega, by simpa using hJ, Below.refl _ _, Nat.le_refl _⟩
  case round =>
    obtain ⟨j, rfl, hj, hJs, hbl⟩ := hrel
    obtain ⟨hbw, hsz⟩ := hbl.out
    by_cases hlt : j < xs.length
    · obtain ⟨b3, off3, x, rfl, hb3, hx, d0, d1⟩ := H.out j hlt
      have d0 := (hbw.cell (p := ⟨b3, off3 + j * 2, none⟩) hb3).trans d0
      have d1 := (hbw.cell (p := ⟨b3, off3 + j * 2 + 1, none⟩) hb3).trans d1
      have hz3 : b3 < wr.heap.size := by omega
      have htk : Hid (xs.take (j + 1) = xs.take j ++ [x]) := by
        show _ = _
        rw [List.take_add_one, hx]; rfl
      have hp : xs.take j ++ [x] <+: xs := by rw [← htk.out]; exact List.take_prefix _ _
      obtain ⟨fn, tmps, assign, body, hy, hR⟩ := hY (xs.take j) x (wr.alloc (.cells #[.int .i64 x.lo, .int .i64 x.hi] 31)) (oJ.alloc _ hJs) hp
      unfold encS spV at hy
      have hba : Below n₀ W (wr.alloc (.cells #[.int .i64 x.lo, .int .i64 x.hi] 31)) := hbw.trans ((below_alloc wr _).mono (by omega))
      have HB := Lib.hid hba
      have HX := Lib.hid hx
      have HPP := Lib.hid hp
      clear hx hp hba hbl hbw hJs
      gi_wp2
      refine (round_any hR).mono ?_
      rintro e W3 (⟨rfl, hJ3, hk3, hk4⟩ | ⟨rfl, hJx3, _⟩)
      · have hs3 : W.heap.size ≤ W3.heap.size := by have := hk4.size; simp at this; omega
        have hb4 := Lib.hid (And.intro (HB.out.trans hk3.b) hs3)
        clear hk3 hk4 hs3
        gi_wp2
        go_roundw
        case rel => exact ⟨j + 1, by go_num, by omega, by rw [htk.out]; exact hJ3, hb4⟩
        case measure => simp [intOf]; omega
      · gi_wp2
        refine bodyPost_ret (results_none rfl _ _ _) rfl ?_
        exact ⟨⟨_, rfl⟩, .inr ⟨_, HPP.out, hJx3⟩⟩
    · obtain rfl : j = xs.length := by omega
      rw [List.take_length] at hJs
      gi_wp2
      go_end0
      exact ⟨⟨_, rfl⟩, .inl hJs⟩
theorem values_g {w : World} {Bs n₀ B : Nat} {U : List TypeId} {v : Value} {xs : List Sp} (hv : Sps w n₀ v xs) (hn : n₀ ≤ w.heap.size) (h0 : w.heap[Bs]? = some (.cells #[v] 99)) :
    Gives Try.prog n₀ B U (.func (.func 150) #[] #[.pointer (some ⟨Bs, 0, none⟩)]) encS xs w := by
  refine ⟨_, _, rfl, enters_of Try.func150 (by kernel_rfl) rfl, fun l J Jx W hW oJ oJx hY hJ => ?_⟩
  have hs := hW.size
  exact values1_c l Bs n₀ B U v xs J Jx W (hv.below (hW.mono hn)) (by omega) oJ hY ((hW.block _ (size_of_block h0)).trans h0) hJ
theorem values_c (A : Option Addr) (n cap : Nat) (w : World) :
    Calls Try.prog 147 #[.slice A n cap] w fun e w' => e = .returned (.func (.func 150) #[] #[.pointer (some ⟨w.heap.size, 0, none⟩)]) ∧ w' = w.alloc (.cells #[.slice A n cap] 99) := by
  go_enter Try.func147, Try.ntmps147
  go_wp2
  go_ret
  exact ⟨rfl, rfl⟩
theorem shareLo_t (xs : List Sp) (w : World) : Tells Try.prog (.func (.func 148) #[] #[]) spV xs (fun x => .int .i64 x.lo) w := by
  refine ⟨_, _, _, rfl, enters_of Try.func148 (by kernel_rfl) rfl, fun x W _ _ => ?_⟩
  show Calls _ _ #[spV x] W _
  unfold spV
  go_enter Try.func148, Try.ntmps148
  go_wp2
  go_ret
  exact ⟨rfl, below_alloc _ _⟩
theorem shareHi_t (xs : List Sp) (w : World) : Tells Try.prog (.func (.func 149) #[] #[]) spV xs (fun x => .int .i64 x.hi) w := by
  refine ⟨_, _, _, rfl, enters_of Try.func149 (by kernel_rfl) rfl, fun x W _ _ => ?_⟩
  show Calls _ _ #[spV x] W _
  unfold spV
  go_enter Try.func149, Try.ntmps149
  go_wp2
  go_ret
  exact ⟨rfl, below_alloc _ _⟩
set_option maxRecDepth 100000 in
set_option maxHeartbeats 4000000 in
theorem totalS_c (things of_ : Value) (n₀ : Nat) (xs : List Sp) (f : Sp → Int) (w : World) (hG : Gives Try.prog n₀ 0 [] things encS xs w) (hn : n₀ ≤ w.heap.size) (hT : Tells Try.prog of_ spV xs (fun x => .int .i64 (f x)) w)
    (hb : ∀ pre, pre <+: xs → -4611686018427387904 ≤ sumL f pre ∧ sumL f pre ≤ 4611686018427387904) :
    Calls Try.prog 146 #[things, of_] w fun e w' => e = .returned (.int .i64 (sumL f xs)) ∧ Below w.heap.size w w' := by
  have hG0 := hG
  obtain ⟨gf, lb, rfl, _, _⟩ := hG0
  obtain ⟨gt, bs, lc, rfl, et, ht⟩ := hT
  (refine (callsIn_wide (n := 9)).1 (callsIn_of_wp_marks Try.func146 rfl trivial ?_ rfl); simp only [Try.ntmps146, List.size_toArray, List.length_cons, List.length_nil, Nat.reduceAdd, Nat.reduceSub, Array.replicate_succ, Array.replicate_zero, List.push_toArray, List.append_toArray, List.nil_append, List.cons_append])
  gi_wp2
  have hB0 : Below w.heap.size w ((w.alloc (.cells #[.func (.func gt) bs lc] 179)).alloc (.cells #[.int .i64 0] 3)) := ((Below.refl _ w).alloc (Nat.le_refl _) _).alloc (by simp) _
  have hsz : ((w.alloc (.cells #[.func (.func gt) bs lc] 179)).alloc (.cells #[.int .i64 0] 3)).heap.size = w.heap.size + 2 := by simp
  have b1 : ((w.alloc (.cells #[.func (.func gt) bs lc] 179)).alloc (.cells #[.int .i64 0] 3)).heap[w.heap.size + 1]? = some (.cells #[.int .i64 0] 3) := box2 _ _ _ _
  have b0 : ((w.alloc (.cells #[.func (.func gt) bs lc] 179)).alloc (.cells #[.int .i64 0] 3)).heap[w.heap.size]? = some (.cells #[.func (.func gt) bs lc] 179) := ((below_alloc _ _).block w.heap.size (by simp)).trans (heap_alloc_new w _)
  obtain ⟨W0, hW0⟩ : ∃ W0, (w.alloc (.cells #[.func (.func gt) bs lc] 179)).alloc (.cells #[.int .i64 0] 3) = W0 := ⟨_, rfl⟩
  rw [hW0] at hB0 hsz b1 b0 ⊢
  clear hW0
  refine wpIn_over (hG.later hB0) rfl (fun _ => rfl) (by omega)
    (fun pre W => (W.heap[w.heap.size + 1]? = some (.cells #[.int .i64 (sumL f pre)] 3) ∧ W.heap[w.heap.size]? = some (.cells #[.func (.func gt) bs lc] 179)) ∧ Below w.heap.size w W)
    (fun _ _ _ => False)
    (((own_cells _ _ _ fun _ => rfl).and (own_cells _ _ _ fun _ => rfl)).and (ownFrom_below (Nat.le_refl _) (by omega)))
    (fun _ _ _ _ _ hs _ _ => hs) ⟨⟨b1, b0⟩, hB0⟩
    (fun x a' W' => ∃ Bx, w.heap.size + 2 ≤ Bx ∧ W'.heap[Bx]? = some (.cells #[.int .i64 x.lo, .int .i64 x.hi] 31) ∧ a' = { tmps := #[.func (.func gf) #[] lb, .func (.func gt) bs lc, undef, .pointer (some ⟨w.heap.size, 0, none⟩), .int .i64 0, .pointer (some ⟨w.heap.size + 1, 0, none⟩), .pointer (some ⟨Bx, 0, none⟩), .func (.func gf) #[] lb, spV x, undef, undef, undef, undef, undef, undef], defers := [] })
    (fun x a' s' X Y row hs hg hrow => by
      obtain ⟨Bx, h1, h2, h3⟩ := hs
      exact ⟨Bx, h1, own_cells (β := Unit) W0.heap.size Bx (fun _ => .cells #[.int .i64 x.lo, .int .i64 x.hi] 31) (fun _ => rfl) s' X Y row h2 hg hrow, h3⟩) ?assign ?body ?done ?stop
  case assign =>
    intro l pre x W K hl hi hp hK
    unfold encS
    gi_wp2
    have ha := below_alloc W (.cells #[.int .i64 x.lo, .int .i64 x.hi] 31)
    have hsw := hi.2.size
    refine hK _ _ (keeps_of_below ha) (Kp.of_below ha (by omega)) ⟨⟨(ha.block _ (size_of_block hi.1.1)).trans hi.1.1, (ha.block _ (size_of_block hi.1.2)).trans hi.1.2⟩, below_then hi.2 ha⟩ ⟨W.heap.size, ?_, heap_alloc_new _ _, rfl⟩
    have := size_of_block hi.1.1
    omega
  case body =>
    rintro l pre x a' W hl hrc ⟨⟨s1, s0⟩, hbw⟩ ⟨Bx, hBx, xB, rfl⟩ hp
    have hws := hbw.size
    have z1 := Joins.cell_of_block s1 0
    have z0 := Joins.cell_of_block s0 0
    have x0 := Joins.cell_of_block xB 0
    have x1 := Joins.cell_of_block xB 1
    have f1 := Joins.unfrozen_of_block s1 0
    have hz1 := size_of_block s1
    have hz0 := size_of_block s0
    have hzx := size_of_block xB
    have hx : x ∈ xs := hp.subset (by simp)
    have hbd := hb _ hp
    rw [sumL_append, sumL_cons, sumL_nil, Int.add_zero] at hbd
    obtain ⟨hbd1, hbd2⟩ := hbd
    gi_wp2
    refine wpIn_region_grown_tail (r := some l) 5 (by kernel_rfl) (by kernel_rfl) fun hcg => ?_
    simp only [List.take_succ_cons, List.take_zero, List.drop_succ_cons, List.drop_zero]
    repeat (go_big_quiet_step (fail))
    refine wpQuiet_value (.tmp 10) (.tmp 11) _ gt bs lc (spV x) (.int .i64 (f x)) rfl rfl rfl rfl et (fun g => ht x g.val hx (below_then hbw g.b)) ?_
    simp only [Act.put, List.setIfInBounds_toArray, List.set_cons_succ, List.set_cons_zero]
    repeat (go_big_quiet_step (fail))
    refine wpQuiet_nil ?_
    intro _ hw'
    obtain ⟨g, hw''⟩ := hw'
    subst hw''
    have s1g := (g.b.block _ hz1).trans s1
    have s0g := (g.b.block _ hz0).trans s0
    have f1g := Joins.unfrozen_of_block s1g 0
    have z1g := Joins.cell_of_block s1g 0
    have hgs := g.b.size
    clear hcg
    gi_wp2
    refine ⟨(keeps_of_below g.b).trans ((KeepsOthers.setCell _ _ _).from _), ⟨(g.b.mono (by omega)).setCell (p := ⟨w.heap.size + 1, 0, none⟩) (by simp; omega) _, fun _ _ _ _ _ _ h => (by cases h)⟩, ⟨⟨?_, ?_⟩, (hbw.trans (g.b.mono (by omega))).setCell (p := ⟨w.heap.size + 1, 0, none⟩) (by simp) _⟩⟩
    · rw [sumL_append, sumL_cons, sumL_nil, Int.add_zero]
      exact Joins.block_setCell (i := 0) s1g _
    · exact (block_setCell_lt (by omega)).trans s0g
  case done =>
    rintro D W hD ⟨⟨s1, s0⟩, hbw⟩ hK
    have z1 := Joins.cell_of_block s1 0
    gi_wp2
    refine ⟨by simp, .inl ⟨_, _, rfl, run_takeDeferred hK, ?_⟩⟩
    exact ⟨_, results_tmp rfl _ _ _, rfl, hbw.trans (belowK_b (w := w) (Nat.le_refl _) W D _ _ (by omega) hK rfl rfl)⟩
  case stop =>
    intro D c pre W _ _ h _
    exact h.elim
end Go.Proofs.Ytaaeipjnhjgjdaa
/- Between which ends each of some numbers lies, by package sample: share. -/
namespace Go.Proofs.Ytaaeipjnhjgjdaa
open Go Go.RowKit Go.Shelf

def nearS (p : Sp) (L H : Int) (x : Sp) : Sp := ⟨max x.lo (max p.lo L - (H - x.hi)), min x.hi (min p.hi H - (L - x.lo))⟩
theorem span_sums : ∀ {xs : List Sp}, (∀ x ∈ xs, 0 ≤ x.lo ∧ x.lo ≤ x.hi ∧ x.hi ≤ 50) → 0 ≤ sumL Sp.lo xs ∧ sumL Sp.lo xs ≤ sumL Sp.hi xs ∧ sumL Sp.hi xs ≤ 50 * xs.length := by
  intro xs
  induction xs with
  | nil => intro _; simp [sumL_nil]
  | cons x xs ih =>
    intro h
    have h1 := h x (by simp)
    have h2 := ih fun y hy => h y (by simp [hy])
    rw [sumL_cons, sumL_cons, List.length_cons]
    omega
set_option maxHeartbeats 4000000 in
set_option maxRecDepth 100000 in
theorem share_c (xs : List Sp) (p : Sp) (v : Value) (w : World) (hv : Sps w w.heap.size v xs) (hb : ∀ x ∈ xs, 0 ≤ x.lo ∧ x.lo ≤ x.hi ∧ x.hi ≤ 50) (hl : xs.length ≤ 12) (hpp : p.lo ≤ p.hi) :
    Calls Try.prog 131 #[v, spV p] w fun e w' => ∃ u, e = .returned (.tuple #[u, .int .i64 (if sumL Sp.hi xs < p.lo ∨ p.hi < sumL Sp.lo xs then 9 else 0)]) ∧
      Sps w' w'.heap.size u (if sumL Sp.hi xs < p.lo ∨ p.hi < sumL Sp.lo xs then [] else xs.map (nearS p (sumL Sp.lo xs) (sumL Sp.hi xs))) ∧ Below w.heap.size w w' := by
  obtain ⟨i0, hi, hz0, hz1, hz2⟩ := info_parts Try.infoSp
  have HI := Lib.hid hi
  have HI0 := Lib.hid hz0
  have HI1 := Lib.hid hz1
  have HI2 := Lib.hid hz2
  clear hi hz0 hz1 hz2
  obtain ⟨A, cap, rfl, _⟩ := hv.open_
  obtain ⟨ss0, ss1, ss2⟩ := span_sums hb
  have preLo : ∀ pre, pre <+: xs → -4611686018427387904 ≤ sumL Sp.lo pre ∧ sumL Sp.lo pre ≤ 4611686018427387904 := fun pre hp => by
    have := sumL_prefix (f := Sp.lo) hp fun x hx => (hb x hx).1
    omega
  have preHi : ∀ pre, pre <+: xs → -4611686018427387904 ≤ sumL Sp.hi pre ∧ sumL Sp.hi pre ≤ 4611686018427387904 := fun pre hp => by
    have := sumL_prefix (f := Sp.hi) hp fun x hx => (by have := hb x hx; omega)
    omega
  have PL := Lib.hid preLo
  have PH := Lib.hid preHi
  have HB := Lib.hid hb
  clear preLo preHi hb
  obtain ⟨L, hL⟩ : ∃ L, L = sumL Sp.lo xs := ⟨_, rfl⟩
  obtain ⟨H, hH⟩ : ∃ H, H = sumL Sp.hi xs := ⟨_, rfl⟩
  rw [← hL, ← hH]
  rw [← hL] at ss0 ss1
  rw [← hH] at ss1 ss2
  have HL := Lib.hid hL
  have HH := Lib.hid hH
  clear hL hH
  have hp0 := heap_alloc_new w (.cells #[.int .i64 p.lo, .int .i64 p.hi] 31)
  have BB := below_alloc w (.cells #[.int .i64 p.lo, .int .i64 p.hi] 31)
  unfold spV
  go_enter Try.func131, Try.ntmps131
  go_wp2_with fail
  generalize w.alloc (.cells #[.int .i64 p.lo, .int .i64 p.hi] 31) = W0 at hp0 BB ⊢
  refine (values_c _ _ _ _).mono ?_
  rintro e W1 ⟨rfl, rfl⟩
  have n1 := heap_alloc_new W0 (.cells #[.slice A xs.length cap] 99)
  have b1 := below_alloc W0 (.cells #[.slice A xs.length cap] 99)
  generalize W0.alloc (.cells #[.slice A xs.length cap] 99) = W1 at n1 b1 ⊢
  replace hp0 := (b1.block _ (size_of_block hp0)).trans hp0
  replace BB := below_then BB b1
  have hv1 : Sps W1 W1.heap.size (.slice A xs.length cap) xs := hv.later BB
  have hG := values_g (B := 0) (U := []) hv1 (Nat.le_refl _) n1
  clear b1
  go_wp2_with fail
  refine (totalS_c _ _ W1.heap.size xs Sp.lo W1 hG (Nat.le_refl _) (shareLo_t xs W1) PL.out).mono ?_
  rintro e W2 ⟨rfl, hb2⟩
  rw [← HL.out]
  replace hp0 := (hb2.block _ (size_of_block hp0)).trans hp0
  replace BB := below_then BB hb2
  clear hG hb2 n1 hv1
  go_wp2_with fail
  refine (values_c _ _ _ _).mono ?_
  rintro e W3 ⟨rfl, rfl⟩
  have n1 := heap_alloc_new W2 (.cells #[.slice A xs.length cap] 99)
  have b1 := below_alloc W2 (.cells #[.slice A xs.length cap] 99)
  generalize W2.alloc (.cells #[.slice A xs.length cap] 99) = W3 at n1 b1 ⊢
  replace hp0 := (b1.block _ (size_of_block hp0)).trans hp0
  replace BB := below_then BB b1
  have hv1 : Sps W3 W3.heap.size (.slice A xs.length cap) xs := hv.later BB
  have hG := values_g (B := 0) (U := []) hv1 (Nat.le_refl _) n1
  clear b1
  go_wp2_with fail
  refine (totalS_c _ _ W3.heap.size xs Sp.hi W3 hG (Nat.le_refl _) (shareHi_t xs W3) PH.out).mono ?_
  rintro e W4 ⟨rfl, hb4⟩
  rw [← HH.out]
  replace hp0 := (hb4.block _ (size_of_block hp0)).trans hp0
  replace BB := below_then BB hb4
  clear hG hb4 n1 hv1
  have e0 := Joins.cell_of_block hp0 0
  have e1 := Joins.cell_of_block hp0 1
  have f0 := Joins.unfrozen_of_block hp0 0
  have f1 := Joins.unfrozen_of_block hp0 1
  have zp := size_of_block hp0
  go_wp2_with fail
  have p5 : ((W4.setCell ⟨w.heap.size, 0, none⟩ (.int .i64 (max p.lo L))).setCell ⟨w.heap.size, 1, none⟩ (.int .i64 (min p.hi H))).heap[w.heap.size]? = some (.cells #[.int .i64 (max p.lo L), .int .i64 (min p.hi H)] 31) := by
    have := Joins.block_setCell (i := 1) (Joins.block_setCell (i := 0) hp0 (.int .i64 (max p.lo L))) (.int .i64 (min p.hi H))
    simpa using this
  have B5 : Below w.heap.size w ((W4.setCell ⟨w.heap.size, 0, none⟩ (.int .i64 (max p.lo L))).setCell ⟨w.heap.size, 1, none⟩ (.int .i64 (min p.hi H))) := (BB.setCell (p := ⟨w.heap.size, 0, none⟩) (Nat.le_refl _) _).setCell (p := ⟨w.heap.size, 1, none⟩) (Nat.le_refl _) _
  have hs4 : ((W4.setCell ⟨w.heap.size, 0, none⟩ (.int .i64 (max p.lo L))).setCell ⟨w.heap.size, 1, none⟩ (.int .i64 (min p.hi H))).heap.size = W4.heap.size := by simp
  generalize ((W4.setCell ⟨w.heap.size, 0, none⟩ (.int .i64 (max p.lo L))).setCell ⟨w.heap.size, 1, none⟩ (.int .i64 (min p.hi H))) = W5 at p5 B5 hs4 ⊢
  have a5 := heap_alloc_new W5 (.cells #[.int .i64 L, .int .i64 H] 31)
  have b5 := below_alloc W5 (.cells #[.int .i64 L, .int .i64 H] 31)
  rw [hs4] at a5
  replace p5 := (b5.block _ (size_of_block p5)).trans p5
  replace B5 := below_then B5 b5
  have z65 : w.heap.size < W4.heap.size := zp
  clear e0 e1 f0 f1 zp hp0 BB b5 hs4
  generalize W5.alloc (.cells #[.int .i64 L, .int .i64 H] 31) = W6 at a5 p5 B5 ⊢
  have hq := spanP_c ⟨max p.lo L, min p.hi H⟩ W6
  unfold spV at hq
  refine hq.mono ?_
  clear hq
  rintro e W7 ⟨rfl, hb7⟩
  replace p5 := (hb7.block _ (size_of_block p5)).trans p5
  replace a5 := (hb7.block _ (size_of_block a5)).trans a5
  replace B5 := below_then B5 hb7
  clear hb7
  by_cases hc : H < p.lo ∨ p.hi < L
  · have hd : decide ((⟨max p.lo L, min p.hi H⟩ : Sp).lo ≤ (⟨max p.lo L, min p.hi H⟩ : Sp).hi) = false := decide_eq_false (by simp only; omega)
    rw [hd]
    have hc' := Lib.hid hc
    clear hc
    go_wp2_with fail
    refine bodyPost_ret (v := .tuple #[.slice none 0 0, .int .i64 9]) ?_ rfl ⟨_, by first | rfl | rw [if_pos hc'.out], by first | exact Sl.nil_ | (rw [if_pos hc'.out]; exact Sl.nil_), B5⟩
    simp [results, Try.results131, go_sem]
  · have hd : decide ((⟨max p.lo L, min p.hi H⟩ : Sp).lo ≤ (⟨max p.lo L, min p.hi H⟩ : Sp).hi) = true := decide_eq_true (by simp only; omega)
    rw [hd]
    have hc' := Lib.hid hc
    obtain ⟨lw, hlw⟩ : ∃ x, x = max p.lo L := ⟨_, rfl⟩
    obtain ⟨hg, hhg⟩ : ∃ x, x = min p.hi H := ⟨_, rfl⟩
    have hnear : Hid (∀ x, nearS p L H x = ⟨max x.lo (lw - (H - x.hi)), min x.hi (hg - (L - x.lo))⟩) := by
      intro x; rw [hlw, hhg]; rfl
    rw [← hlw, ← hhg] at p5
    have c1 : L ≤ lw ∧ lw ≤ H := by omega
    have c2 : L ≤ hg ∧ hg ≤ H := by omega
    have hv7 : Sps W7 w.heap.size (.slice A xs.length cap) xs := hv.below B5
    obtain ⟨A3, cap3, hat3, hcap3, _, hS3⟩ := hv7.open_
    cases hat3
    have HS3 := Lib.hid hS3
    clear hS3 hlw hhg hd hc hv7
    have z5 := size_of_block p5
    have z6 := size_of_block a5
    go_wp2_with fail
    go_loopw [7, 34] (fun out i wr => ∃ j : Nat, j ≤ xs.length ∧ i = .int .i64 j ∧ wr.ownsRow W7.heap.size 31 2 out j ((xs.take j).flatMap fun x => spC (nearS p L H x)) ∧ Below W7.heap.size W7 wr) (fun _ i _ => xs.length - (intOf i).toNat)
    case atStart => exact ⟨0, by omega, rfl, World.ownsRow_nil _ _ _ _, Below.refl _ _⟩
    case round =>
      obtain ⟨j, hj, rfl, hown, hb⟩ := hrel
      have hbs := hb.size
      by_cases hlt : j < xs.length
      · obtain ⟨b3, off3, x, rfl, hb3, hx, d0, d1⟩ := HS3.out j hlt
        have d0 := (hb.cell (p := ⟨b3, off3 + j * 2, none⟩) (show b3 < W7.heap.size by omega)).trans d0
        have d1 := (hb.cell (p := ⟨b3, off3 + j * 2 + 1, none⟩) (show b3 < W7.heap.size by omega)).trans d1
        have hz3 : b3 < wr.heap.size := by omega
        have heb := HB.out x (List.mem_of_getElem? hx)
        have g0 := (hb.cell (p := ⟨w.heap.size, 0, none⟩) z5).trans (Joins.cell_of_block p5 0)
        have g1 := (hb.cell (p := ⟨w.heap.size, 1, none⟩) z5).trans (Joins.cell_of_block p5 1)
        have k0 := (hb.cell (p := ⟨W4.heap.size, 0, none⟩) z6).trans (Joins.cell_of_block a5 0)
        have k1 := (hb.cell (p := ⟨W4.heap.size, 1, none⟩) z6).trans (Joins.cell_of_block a5 1)
        have y5 : w.heap.size < wr.heap.size := by omega
        have y6 : W4.heap.size < wr.heap.size := by omega
        have hjl : (j : Int) < xs.length := by omega
        have hj0 : (0 : Int) ≤ j := by omega
        have htk : Hid ((xs.take (j + 1)).flatMap (fun x => spC (nearS p L H x)) = (xs.take j).flatMap (fun x => spC (nearS p L H x)) ++ spC (nearS p L H x)) := by
          show (xs.take (j + 1)).flatMap _ = _
          rw [List.take_add_one, hx]; simp
        clear hx
        go_wp2_with (at_builtin; refine wpList_append_own _ rfl _ _ 99 rfl W7.heap.size 31 i0 (.agg #[.int .i64 0, .int .i64 0]) 2 16 Try.underlying99 HI.out HI0.out HI1.out HI2.out rfl (by decide) _ _ _ rfl (((hown.alloc _).alloc _).alloc _) ⟨wr.heap.size + 1 + 1, 0, none⟩ 1 1 [.int .i64 (max x.lo (lw - (H - x.hi))), .int .i64 (min x.hi (hg - (L - x.lo)))] rfl rfl ?c1 ?c2 ?c3 ?c4 ?c5 ?_)
        case c1 => have := cells_new ((wr.alloc (.cells #[.int .i64 x.lo, .int .i64 x.hi] 31)).alloc (.cells #[.int .i64 (L - x.lo), .int .i64 (H - x.hi)] 31)) [.int .i64 (max x.lo (lw - (H - x.hi))), .int .i64 (min x.hi (hg - (L - x.lo)))] 31; simpa using this
        case c2 => intro u hu; simp at hu; rcases hu with rfl | rfl <;> rfl
        case c3 => unfold maxLen; omega
        case c4 => omega
        case c5 => simp; omega
        intro v' w3 hown3 hgrow _
        have hBn := below_append (below_grown hb (by omega) (below_then (below_alloc wr (.cells #[.int .i64 x.lo, .int .i64 x.hi] 31)) (below_alloc _ (.cells #[.int .i64 (L - x.lo), .int .i64 (H - x.hi)] 31)))) (by simp; omega) ((hown.alloc _).alloc _) hgrow
        clear hgrow
        go_wp2
        go_roundw
        case rel => exact ⟨j + 1, by omega, by go_num, by rw [htk.out, hnear.out x]; exact hown3, hBn⟩
        case measure => simp [intOf]; omega
      · obtain rfl : j = xs.length := by omega
        rw [List.take_length] at hown
        have hout := own_map hown (by omega)
        obtain ⟨A4, cap4, rfl⟩ := own_form hown
        have HO := Lib.hid hout
        clear hout hown
        go_wp2_with fail
        refine bodyPost_ret (v := .tuple #[.slice A4 xs.length cap4, .int .i64 0]) ?_ rfl ⟨_, by first | rfl | rw [if_neg hc'.out], by first | exact HO.out | (rw [if_neg hc'.out]; exact HO.out), below_then B5 hb⟩
        simp [results, Try.results131, go_sem]
end Go.Proofs.Ytaaeipjnhjgjdaa
/- The wholes of a batch, yielded one by one: the iterator. -/
namespace Go.Proofs.Ytaaeipjnhjgjdaa
open Go Go.RowKit Go.Shelf
attribute [local go_sem] Oper.semAt_some

theorem own_grown {β : Type} {B : Nat} {I : β → World → Prop} (h : OwnFrom B I) {s : β} {w w' : World} (hs : I s w) (hb : Below w.heap.size w w') : I s w' :=
  h s w w' none hs ⟨hb.os, hb.tape, hb.output, hb.size, fun k hk _ => hb.block k hk⟩ (fun _ e => by cases e)
theorem own_comp {β γ : Type} {B : Nat} {I : β → World → Prop} (h : OwnFrom B I) (f : γ → β) : OwnFrom B (fun s W => I (f s) W) := fun s X Y row hs hg hr => h (f s) X Y row hs hg hr
theorem own_kp {β : Type} {n₀ B B' : Nat} {U : List TypeId} {w₀ : World} (hn : n₀ ≤ w₀.heap.size) (hB : n₀ ≤ B') : OwnFrom B' (fun (_ : β) W => Kp n₀ B U w₀ W) := fun _ X Y row hs hg hr =>
  ⟨hs.b.grown hg (Nat.le_trans hn hs.b.size) (fun k e => Nat.le_trans hB (hr k e).1), fun k cs ty fr hk hx hu => by
    have h1 := hs.t k cs ty fr hk hx hu
    exact (hg.block k (Array.getElem?_eq_some_iff.1 h1).1 (fun e => by obtain ⟨_, o, ho, hc⟩ := hr k e.symm; rw [h1] at ho; cases ho; cases hc)).trans h1⟩
def encK (x : K3) : Array Value := #[k3V x]
theorem rowP_next (b : Bt) (i : Int) (l : List Int) (j : Int) : rowP b i (l ++ [j]) = rowP b i l ++ (if inI (b.n - i - j) (allowedI b 2).lo (allowedI b 2).hi then [⟨i, j, b.n - i - j⟩] else []) := by
  unfold rowP; rw [List.flatMap_append, List.flatMap_cons, List.flatMap_nil, List.append_nil]
theorem wholesP_next (b : Bt) (l : List Int) (i : Int) : wholesP b (l ++ [i]) = wholesP b l ++ rowP b i (numsL (allowedI b 1).lo (allowedI b 1).hi) := by
  unfold wholesP; rw [List.flatMap_append, List.flatMap_cons, List.flatMap_nil, List.append_nil]
theorem rowP_prefix {b : Bt} {i : Int} {p l : List Int} (h : p <+: l) : rowP b i p <+: rowP b i l := by
  obtain ⟨t, rfl⟩ := h
  unfold rowP; rw [List.flatMap_append]; exact List.prefix_append _ _
theorem wholesP_prefix {b : Bt} {p l : List Int} (h : p <+: l) : wholesP b p <+: wholesP b l := by
  obtain ⟨t, rfl⟩ := h
  unfold wholesP; rw [List.flatMap_append]; exact List.prefix_append _ _
theorem whole_prefix {b : Bt} {pre pre2 : List Int} {i j : Int} (h : pre ++ [i] <+: numsL (allowedI b 0).lo (allowedI b 0).hi) (h2 : pre2 ++ [j] <+: numsL (allowedI b 1).lo (allowedI b 1).hi)
    (hj : inI (b.n - i - j) (allowedI b 2).lo (allowedI b 2).hi = true) : (wholesP b pre ++ rowP b i pre2) ++ [⟨i, j, b.n - i - j⟩] <+: wholesA b := by
  have a := wholesP_prefix (b := b) h
  rw [wholesP_next] at a
  refine List.IsPrefix.trans ?_ a
  have c := rowP_prefix (b := b) (i := i) h2
  rw [rowP_next, if_pos hj] at c
  rw [List.append_assoc]
  exact (List.prefix_append_right_inj _).2 c
abbrev wholesU : List TypeId := [31, 3, 115]
set_option maxRecDepth 100000 in
set_option maxHeartbeats 4000000 in
theorem wholes1_c (l Bb n₀ B : Nat) (U : List TypeId) (b : Bt) (hU : ∀ t ∈ wholesU, t ∈ U) (hk : ∀ X Y, Kp n₀ B U X Y → X.heap[Bb]? = some (.cells (btC b) 34) → Y.heap[Bb]? = some (.cells (btC b) 34)) (hr : rightB b = true) (J Jx : List K3 → World → Prop) (W : World) (hBW : B ≤ W.heap.size) (hnW : n₀ ≤ W.heap.size) (oJ : OwnFrom W.heap.size J) (oJx : OwnFrom W.heap.size Jx)
    (hY : ∀ pre x W1, J pre W1 → pre ++ [x] <+: wholesA b → YieldAt Fence.wide 0 Try.prog l (encK x) W1 fun e W' =>
        (e = .returned (.bool true) ∧ J (pre ++ [x]) W' ∧ Kp n₀ B U W1 W' ∧ KeepsFrom W.heap.size W1 W') ∨ (e = .returned (.bool false) ∧ Jx (pre ++ [x]) W' ∧ KeepsFrom W.heap.size W1 W'))
    (h0 : W.heap[Bb]? = some (.cells (btC b) 34)) (hJ : J [] W) :
    Calls Try.prog 136 (#[.func (.yield l) #[] #[], .pointer (some ⟨Bb, 0, none⟩)]) W fun e W' => (∃ u, e = .returned u) ∧ (J (wholesA b) W' ∨ ∃ pre, pre <+: wholesA b ∧ Jx pre W') := by
  have hn := right_n hr
  have hBb := size_of_block h0
  unfold btC at h0 hk
  have HK := Lib.hid hk
  clear hk
  have d0 := Joins.cell_of_block h0 0
  have d1 := Joins.cell_of_block h0 1
  have d2 := Joins.cell_of_block h0 2
  have d3 := Joins.cell_of_block h0 3
  have d4 := Joins.cell_of_block h0 4
  have d5 := Joins.cell_of_block h0 5
  have d6 := Joins.cell_of_block h0 6
  have d7 := Joins.cell_of_block h0 7
  have d8 := Joins.cell_of_block h0 8
  have d9 := Joins.cell_of_block h0 9
  (refine (callsIn_wide (n := 9)).1 (callsIn_of_wp_marks Try.func136 rfl trivial ?_ rfl); simp only [Try.ntmps136, List.size_toArray, List.length_cons, List.length_nil, Nat.reduceAdd, Nat.reduceSub, Array.replicate_succ, Array.replicate_zero, List.push_toArray, List.append_toArray, List.nil_append, List.cons_append])
  gi_wp2_with fail
  refine ⟨trivial, calls_any (r := none) ((allowed_c b 2 _ (by simp)).mono ?_)⟩
  rintro e w1 ⟨rfl, hb1⟩
  have s1 := Lib.hid hb1.size
  have B1 := below_then (below_alloc W (.cells #[.func (.yield l) #[] #[]] 115)) hb1
  have y1 := (hb1.block _ (size_of_block (heap_alloc_new W (.cells #[.func (.yield l) #[] #[]] 115)))).trans (heap_alloc_new W (.cells #[.func (.yield l) #[] #[]] 115))
  have J1 : J [] w1 := own_grown oJ hJ B1
  have h1 := (B1.block _ hBb).trans h0
  clear d0 d1 d2 d3 d4 d5 d6 d7 d8 d9 hb1
  have d0 := Joins.cell_of_block h1 0
  have d1 := Joins.cell_of_block h1 1
  have d2 := Joins.cell_of_block h1 2
  have d3 := Joins.cell_of_block h1 3
  have d4 := Joins.cell_of_block h1 4
  have d5 := Joins.cell_of_block h1 5
  have d6 := Joins.cell_of_block h1 6
  have d7 := Joins.cell_of_block h1 7
  have d8 := Joins.cell_of_block h1 8
  have d9 := Joins.cell_of_block h1 9
  have hBb1 := size_of_block h1
  gi_wp2_with fail
  have c1 := heap_alloc_new w1 (.cells #[.int .i64 (allowedI b 2).lo, .int .i64 (allowedI b 2).hi] 31)
  have a1 := below_alloc w1 (.cells #[.int .i64 (allowedI b 2).lo, .int .i64 (allowedI b 2).hi] 31)
  have zc := size_of_block c1
  generalize w1.alloc (.cells #[.int .i64 (allowedI b 2).lo, .int .i64 (allowedI b 2).hi] 31) = W2 at c1 a1 zc ⊢
  refine ⟨trivial, calls_any (r := none) ((allowed_c b 0 _ (by simp)).mono ?_)⟩
  rintro e w3 ⟨rfl, hb3⟩
  have a3 := below_then a1 hb3
  have B3 := below_then B1 a3
  have y3 := (a3.block _ (size_of_block y1)).trans y1
  have h3 := (a3.block _ hBb1).trans h1
  have c3 := (hb3.block _ zc).trans c1
  have J3 : J [] w3 := own_grown oJ J1 a3
  clear d0 d1 d2 d3 d4 d5 d6 d7 d8 d9 hb3 a1 zc c1 y1 h1 J1 B1 a3
  gi_wp2_with fail
  refine ⟨trivial, calls_any (r := none) ((numbers_c (allowedI b 0) _).mono ?_)⟩
  rintro e w4 ⟨rfl, rfl⟩
  have n4 := heap_alloc_new w3 (.cells #[.int .i64 (allowedI b 0).lo, .int .i64 (allowedI b 0).hi] 31)
  have a4 := below_alloc w3 (.cells #[.int .i64 (allowedI b 0).lo, .int .i64 (allowedI b 0).hi] 31)
  generalize w3.alloc (.cells #[.int .i64 (allowedI b 0).lo, .int .i64 (allowedI b 0).hi] 31) = W0 at n4 a4 ⊢
  have B0 := below_then B3 a4
  have y0 := (a4.block _ (size_of_block y3)).trans y3
  have hh0 := (a4.block _ (size_of_block h3)).trans h3
  have cc0 := (a4.block _ (size_of_block c3)).trans c3
  have J0 : J [] W0 := own_grown oJ J3 a4
  have sz3 := B3.size
  have zw1 := (Array.getElem?_eq_some_iff.1 c3).1
  clear y3 h3 c3 J3 a4 B3
  have hw1 : W.heap.size < w1.heap.size := by have := s1.out; simp at this; omega
  have hs : 0 ≤ b.k0.lo ∧ b.k0.hi ≤ b.n ∧ 0 ≤ b.k1.lo ∧ b.k1.hi ≤ b.n ∧ 0 ≤ b.k2.lo ∧ b.k2.hi ≤ b.n := by
    simp only [rightB, spansB, inI, Bool.and_eq_true, decide_eq_true_eq] at hr; omega
  have al0 : (allowedI b 0).lo = max b.s.a b.k0.lo ∧ (allowedI b 0).hi = b.k0.hi := ⟨rfl, rfl⟩
  have al1 : (allowedI b 1).lo = max b.s.b b.k1.lo ∧ (allowedI b 1).hi = b.k1.hi := ⟨rfl, rfl⟩
  have szB := B0.size
  have hlo0 : 0 ≤ (allowedI b 0).lo := by omega
  have hhi0 : (allowedI b 0).hi ≤ b.n := by omega
  have hlo1 : 0 ≤ (allowedI b 1).lo := by omega
  have hhi1 : (allowedI b 1).hi ≤ b.n := by omega
  have bn : b.n ≤ 50 := hn.2.1
  clear al0 al1 hs hn
  gi_wp2_with fail
  refine wpIn_over (U := U) (n₀ := n₀) (B := B) (numbers_g2 (s := allowedI b 0) (by omega) (hU _ (by simp)) (by omega) (by omega) n4) rfl (fun _ => rfl) (by omega)
    (fun pre W' => (W'.heap[W.heap.size]? = some (.cells #[.func (.yield l) #[] #[]] 115) ∧ W'.heap[Bb]? = some (.cells #[.int .i64 b.n, .int .i64 b.s.a, .int .i64 b.s.b, .int .i64 b.s.c, .int .i64 b.k0.lo, .int .i64 b.k0.hi, .int .i64 b.k1.lo, .int .i64 b.k1.hi, .int .i64 b.k2.lo, .int .i64 b.k2.hi] 34)) ∧ W'.heap[w1.heap.size]? = some (.cells #[.int .i64 (allowedI b 2).lo, .int .i64 (allowedI b 2).hi] 31) ∧ J (wholesP b pre) W')
    (fun c _ W' => c = .ret ∧ ∃ q, q <+: wholesA b ∧ Jx q W')
    (((own_cells _ _ _ fun _ => rfl).and (own_cells _ _ _ fun _ => rfl)).and ((own_cells _ _ _ fun _ => rfl).and (own_comp (ownUp oJ (by omega)) _)))
    (fun c s X Y row hs hg hrow => ⟨hs.1, hs.2.elim fun q hq => ⟨q, hq.1, ownUp oJx (by omega) q X Y row hq.2 hg hrow⟩⟩) ⟨⟨y0, hh0⟩, cc0, J0⟩
    (fun x a' W' => ∃ Bx, W.heap.size ≤ Bx ∧ W'.heap[Bx]? = some (.cells #[.int .i64 x] 3) ∧ a' = { tmps := #[.func (.yield l) #[] #[], .pointer (some ⟨Bb, 0, none⟩), .pointer (some ⟨W.heap.size, 0, none⟩), .pointer (some ⟨w1.heap.size, 0, none⟩), .pointer (some ⟨Bx, 0, none⟩), undef, undef, btV b, spV (allowedI b 2), btV b, spV (allowedI b 0), .func (.func 138) #[] #[.pointer (some ⟨w3.heap.size, 0, none⟩)], .int .i64 x, undef, undef, undef, undef, undef, undef, undef, undef, undef, undef, undef, undef, undef, undef, undef, undef, undef, undef, undef, undef, undef, undef, undef, undef, undef], defers := [] })
    (fun x a' s X Y row hs hg hrow => by
      obtain ⟨Bx, h1, h2, h3⟩ := hs
      exact ⟨Bx, h1, own_cells (β := Unit) W0.heap.size Bx (fun _ => .cells #[.int .i64 x] 3) (fun _ => rfl) s X Y row h2 hg hrow, h3⟩) ?assign ?body ?done ?stop
  case assign =>
    rintro l2 pre x W' K hl ⟨⟨i1, i2⟩, i3, i4⟩ hp hK
    unfold encI
    gi_wp2
    have ha := below_alloc W' (.cells #[.int .i64 x] 3)
    refine hK _ _ (keeps_of_below ha) (Kp.of_below ha ?_) ⟨⟨(ha.block _ (size_of_block i1)).trans i1, (ha.block _ (size_of_block i2)).trans i2⟩, (ha.block _ (size_of_block i3)).trans i3, own_grown oJ i4 ha⟩ ⟨W'.heap.size, ?_, heap_alloc_new _ _, rfl⟩
    · have := size_of_block i3; omega
    · have := size_of_block i3; omega
  case done =>
    rintro D W' hD ⟨_, _, i4⟩ hK
    gi_wp2
    refine ⟨by simp, .inl ⟨_, _, rfl, run_takeDeferred hK, ?_⟩⟩
    exact ⟨_, results_none rfl _ _ _, ⟨_, rfl⟩, .inl ((ownUp oJ szB).putObj _ i4 hD hK rfl)⟩
  case stop =>
    rintro D c pre W' hD hp ⟨rfl, q, hq1, hq2⟩ hK
    gi_wp2
    refine ⟨by simp, .inl ⟨_, _, rfl, run_takeDeferred hK, ?_⟩⟩
    exact ⟨_, results_none rfl _ _ _, ⟨_, rfl⟩, .inr ⟨q, hq1, (ownUp oJx szB).putObj _ hq2 hD hK rfl⟩⟩
  case body =>
    rintro l2 pre x a' W1 hl ⟨rc, hrc⟩ ⟨⟨i1, i2⟩, i3, i4⟩ ⟨Bx, hBx, xB, rfl⟩ hp
    have hxb : 0 ≤ x ∧ x ≤ b.n := by have := numsL_at hp; omega
    obtain ⟨x1, x2⟩ := hxb
    have d0 := Joins.cell_of_block i2 0
    have d1 := Joins.cell_of_block i2 1
    have d2 := Joins.cell_of_block i2 2
    have d3 := Joins.cell_of_block i2 3
    have d4 := Joins.cell_of_block i2 4
    have d5 := Joins.cell_of_block i2 5
    have d6 := Joins.cell_of_block i2 6
    have d7 := Joins.cell_of_block i2 7
    have d8 := Joins.cell_of_block i2 8
    have d9 := Joins.cell_of_block i2 9
    have zB := size_of_block i2
    have zl : l2 < W1.heap.size := (Array.getElem?_eq_some_iff.1 hrc).1
    unfold btV
    gi_wp2_with fail
    refine ⟨trivial, calls_any (r := some l2) ((allowed_c b 1 _ (by simp)).mono ?_)⟩
    rintro e w5 ⟨rfl, hb5⟩
    have i1' := (hb5.block _ (size_of_block i1)).trans i1
    have h2 := (hb5.block _ zB).trans i2
    have i3' := (hb5.block _ (size_of_block i3)).trans i3
    have xB' := (hb5.block _ (size_of_block xB)).trans xB
    have J5 := own_grown oJ i4 hb5
    have hr5 := (hb5.block _ zl).trans hrc
    gi_wp2_with fail
    refine ⟨trivial, calls_any (r := some l2) ((numbers_c (allowedI b 1) _).mono ?_)⟩
    rintro e w6 ⟨rfl, rfl⟩
    have n6 := heap_alloc_new w5 (.cells #[.int .i64 (allowedI b 1).lo, .int .i64 (allowedI b 1).hi] 31)
    have a6 := below_alloc w5 (.cells #[.int .i64 (allowedI b 1).lo, .int .i64 (allowedI b 1).hi] 31)
    generalize w5.alloc (.cells #[.int .i64 (allowedI b 1).lo, .int .i64 (allowedI b 1).hi] 31) = W6 at n6 a6 ⊢
    have m1 := (a6.block _ (size_of_block i1')).trans i1'
    have m2 := (a6.block _ (size_of_block h2)).trans h2
    have m3 := (a6.block _ (size_of_block i3')).trans i3'
    have m4 := (a6.block _ (size_of_block xB')).trans xB'
    have J6 := own_grown oJ J5 a6
    have r6 := (a6.block _ (size_of_block hr5)).trans hr5
    have b56 := below_then hb5 a6
    have s56 := b56.size
    have s5 := hb5.size
    have zw := size_of_block i3
    clear d0 d1 d2 d3 d4 d5 d6 d7 d8 d9 i1' h2 i3' xB' J5 hr5
    gi_wp2_with fail
    refine wpIn_over_in (U := U) (n₀ := n₀) (B := B) (l₀ := l2) ⟨_, r6⟩ (numbers_g2 (s := allowedI b 1) (by omega) (hU _ (by simp)) (by omega) (by omega) n6) rfl (fun _ => rfl) (by omega)
      (fun pre2 W' => ((W'.heap[W.heap.size]? = some (.cells #[.func (.yield l) #[] #[]] 115) ∧ W'.heap[Bb]? = some (.cells #[.int .i64 b.n, .int .i64 b.s.a, .int .i64 b.s.b, .int .i64 b.s.c, .int .i64 b.k0.lo, .int .i64 b.k0.hi, .int .i64 b.k1.lo, .int .i64 b.k1.hi, .int .i64 b.k2.lo, .int .i64 b.k2.hi] 34)) ∧ W'.heap[w1.heap.size]? = some (.cells #[.int .i64 (allowedI b 2).lo, .int .i64 (allowedI b 2).hi] 31) ∧ J (wholesP b pre ++ rowP b x pre2) W') ∧ W'.heap[Bx]? = some (.cells #[.int .i64 x] 3) ∧ KeepsFrom W0.heap.size W1 W' ∧ Kp n₀ B U W1 W')
      (fun c _ W' => (c = .ret ∧ ∃ q, q <+: wholesA b ∧ Jx q W') ∧ KeepsFrom W0.heap.size W1 W')
      ((((own_cells _ _ _ fun _ => rfl).and (own_cells _ _ _ fun _ => rfl)).and ((own_cells _ _ _ fun _ => rfl).and (own_comp (ownUp oJ (by omega)) _))).and ((own_cells _ _ _ fun _ => rfl).and ((ownFrom_keepsFrom (by omega)).and (own_kp (by omega) (by omega)))))
      (fun c s X Y row hs hg hrow => ⟨⟨hs.1.1, hs.1.2.elim fun q hq => ⟨q, hq.1, ownUp oJx (by omega) q X Y row hq.2 hg hrow⟩⟩, ownFrom_keepsFrom (by omega) s X Y row hs.2 hg hrow⟩)
      ⟨⟨⟨m1, m2⟩, m3, by rw [show rowP b x [] = [] from rfl, List.append_nil]; exact J6⟩, m4, keeps_of_below b56, Kp.of_below b56 (by omega)⟩
      (fun y a' W' => a' = { tmps := #[.func (.yield l) #[] #[], .pointer (some ⟨Bb, 0, none⟩), .pointer (some ⟨W.heap.size, 0, none⟩), .pointer (some ⟨w1.heap.size, 0, none⟩), .pointer (some ⟨Bx, 0, none⟩), .int .i64 y, undef, btV b, spV (allowedI b 2), btV b, spV (allowedI b 0), .func (.func 138) #[] #[.pointer (some ⟨w3.heap.size, 0, none⟩)], .int .i64 x, btV b, spV (allowedI b 1), .func (.func 138) #[] #[.pointer (some ⟨w5.heap.size, 0, none⟩)], .int .i64 y, undef, undef, undef, undef, undef, undef, undef, undef, undef, undef, undef, undef, undef, undef, undef, undef, undef, undef, undef, undef, undef], defers := [] })
      (fun _ _ _ _ _ _ hs _ _ => hs) ?assign2 ?body2 ?done2 ?stop2
    case assign2 =>
      intro l3 pre2 y W' K hl3 hi hp2 hK
      unfold encI
      gi_wp2
      exact hK _ _ (KeepsFrom.refl _ _) (Kp.refl _ _ _ _) hi rfl
    case done2 =>
      rintro W' ⟨⟨⟨k1, k2⟩, k3, k4⟩, k5, k6, k7⟩
      gi_wp2
      exact ⟨k6, k7, ⟨k1, k2⟩, k3, by rw [wholesP_next]; exact k4⟩
    case stop2 =>
      rintro c pre2 W' hp2 ⟨⟨rfl, q, hq1, hq2⟩, k6⟩
      gi_wp2
      exact ⟨k6, rfl, q, hq1, hq2⟩
    case body2 =>
      rintro l3 pre2 y a' W7 hl3 ⟨rc3, hrc3⟩ ⟨⟨⟨k1, k2⟩, k3, k4⟩, k5, k6, k7⟩ rfl hp2
      have hyb : 0 ≤ y ∧ y ≤ b.n := by have := numsL_at hp2; omega
      obtain ⟨y1', y2'⟩ := hyb
      have d0 := Joins.cell_of_block k2 0
      have cs0 := Joins.cell_of_block k3 0
      have cs1 := Joins.cell_of_block k3 1
      have xb0 := Joins.cell_of_block k5 0
      have yb0 := Joins.cell_of_block k1 0
      unfold btV
      have hzW := size_of_block k3
      rcases Bool.eq_false_or_eq_true (inI (b.n - x - y) (allowedI b 2).lo (allowedI b 2).hi) with hi | hi
      · obtain ⟨fn, tmps, assign, body, hyy, hR⟩ := yield_any (r := some l3) (m' := 4) (hY _ ⟨x, y, b.n - x - y⟩ W7 k4 (whole_prefix hp hp2 hi))
        have hnx := Lib.hid (rowP_next b x pre2 y)
        have HI := Lib.hid hi
        have hpre := Lib.hid (whole_prefix hp hp2 hi)
        clear hi
        unfold encK k3V at hyy
        gi_wp2_with fail
        refine ⟨trivial, calls_any (r := some l3) ((within_c _ _ _ _).mono ?_)⟩
        rintro e w' ⟨rfl, rfl⟩
        rw [HI.out]
        gi_wp2_with fail
        refine hR.mono ?_
        rintro e W8 (⟨rfl, hJ8, hk8, hf8⟩ | ⟨rfl, hJx8, hf8⟩)
        · gi_wp2_with fail
          refine ⟨keepsFrom_up hf8 (by omega), hk8, ⟨⟨⟨hk8.t _ _ _ _ hBW k1 (hU _ (by simp)), HK.out _ _ hk8 k2⟩, hk8.t _ _ _ _ (by omega) k3 (hU _ (by simp)), ?_⟩, hk8.t _ _ _ _ (by omega) k5 (hU _ (by simp)), k6.trans (keepsFrom_up hf8 (by omega)), k7.trans hk8⟩⟩
          rw [hnx.out, if_pos HI.out, ← List.append_assoc]
          exact hJ8
        · gi_wp2_with fail
          exact ⟨keepsFrom_up hf8 (by omega), ⟨rfl, _, hpre.out, hJx8⟩, k6.trans (keepsFrom_up hf8 (by omega))⟩
      · have hnx := Lib.hid (rowP_next b x pre2 y)
        have HI := Lib.hid hi
        clear hi
        gi_wp2_with fail
        refine ⟨trivial, calls_any (r := some l3) ((within_c _ _ _ _).mono ?_)⟩
        rintro e w' ⟨rfl, rfl⟩
        rw [HI.out]
        gi_wp2_with fail
        refine ⟨fun _ h => (by cases h), ?_⟩
        gi_wp2_with fail
        refine ⟨KeepsFrom.refl _ _, Kp.refl _ _ _ _, ⟨⟨⟨k1, k2⟩, k3, ?_⟩, k5, k6, k7⟩⟩
        rw [hnx.out, HI.out, if_neg (by simp), List.append_nil]
        exact k4
theorem wholes_g {w : World} {Bb n₀ B : Nat} {U : List TypeId} {b : Bt} (hU : ∀ t ∈ wholesU, t ∈ U) (hb : Bb < n₀) (hr : rightB b = true) (hB : B ≤ w.heap.size) (hn : n₀ ≤ w.heap.size) (h0 : w.heap[Bb]? = some (.cells (btC b) 34)) :
    Gives Try.prog n₀ B U (.func (.func 136) #[] #[.pointer (some ⟨Bb, 0, none⟩)]) encK (wholesA b) w := by
  refine ⟨_, _, rfl, enters_of Try.func136 (by kernel_rfl) rfl, fun l J Jx W hW oJ oJx hY hJ => ?_⟩
  have := hW.size
  exact wholes1_c l Bb n₀ B U b hU (fun X Y h hx => (h.b.block _ hb).trans hx) hr J Jx W (by omega) (by omega) oJ oJx hY ((hW.block _ (size_of_block h0)).trans h0) hJ
/-- .. to whoever keeps the batches from B on. -/
theorem wholes_g2 {w : World} {Bb n₀ B : Nat} {U : List TypeId} {b : Bt} (hU : ∀ t ∈ wholesU, t ∈ U) (hb : B ≤ Bb) (hUb : 34 ∈ U) (hr : rightB b = true) (hB : B ≤ w.heap.size) (hn : n₀ ≤ w.heap.size) (h0 : w.heap[Bb]? = some (.cells (btC b) 34)) :
    Gives Try.prog n₀ B U (.func (.func 136) #[] #[.pointer (some ⟨Bb, 0, none⟩)]) encK (wholesA b) w := by
  refine ⟨_, _, rfl, enters_of Try.func136 (by kernel_rfl) rfl, fun l J Jx W hW oJ oJx hY hJ => ?_⟩
  have := hW.size
  exact wholes1_c l Bb n₀ B U b hU (fun X Y h hx => h.t _ _ _ _ hb hx hUb) hr J Jx W (by omega) (by omega) oJ oJx hY ((hW.block _ (size_of_block h0)).trans h0) hJ
theorem wholesP_c (b : Bt) (w : World) :
    Calls Try.prog 80 #[btV b] w fun e w' => e = .returned (.func (.func 136) #[] #[.pointer (some ⟨w.heap.size, 0, none⟩)]) ∧ w' = w.alloc (.cells (btC b) 34) := by
  unfold btV btC
  go_enter Try.func80, Try.ntmps80
  go_wp2
  go_ret
  exact ⟨rfl, rfl⟩
end Go.Proofs.Ytaaeipjnhjgjdaa
