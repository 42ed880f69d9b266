/- Texts joined: 3RefP 3RefQ 3RefR. -/
import Derived.Test.YtaaeipjnhjgjdaaJ6
/- The chance that a plan with two samples accepts, by the reference. -/
namespace Go.Proofs.Ytaaeipjnhjgjdaa
open Go.RowKit

@[reducible] def dbV (d : Db) : Value := .agg #[.int .i64 d.first, .int .i64 d.accept, .int .i64 d.refuse, .int .i64 d.second, .int .i64 d.together]
set_option maxHeartbeats 1600000 in
set_option maxRecDepth 100000 in
theorem PassTwice3_c (n m : Int) (d : Db) (w : World) :
    Calls Try.prog 59 #[.int .i64 n, .int .i64 m, dbV d] w fun e w' => e = .returned (.tuple #[rtV (twiceR n m d).1, .int .i64 (twiceR n m d).2]) ∧ Below w.heap.size w w' := by
  unfold dbV
  have hy0 := box2 w (.cells #[.int .i64 d.first, .int .i64 d.accept, .int .i64 d.refuse, .int .i64 d.second, .int .i64 d.together] 92) #[.int .i64 0, .int .i64 0] 53
  have HY := Lib.hid hy0
  have hB0 := below_then (below_alloc w (.cells #[.int .i64 d.first, .int .i64 d.accept, .int .i64 d.refuse, .int .i64 d.second, .int .i64 d.together] 92)) (below_alloc _ (.cells #[.int .i64 0, .int .i64 0] 53))
  clear hy0
  rcases Bool.eq_false_or_eq_true (inI n 1 36) with h1 | h1
  · rcases Bool.eq_false_or_eq_true (inI m 0 n) with h2 | h2
    · rcases Bool.eq_false_or_eq_true (inI d.first 0 n) with h3 | h3
      · rcases Bool.eq_false_or_eq_true (inI d.second 0 (n - d.first)) with h4 | h4
        · by_cases h5 : d.accept < 0
          · rw [show twiceR n m d = (⟨0, 0⟩, 1) by unfold twiceR twiceB; rw [if_neg]; simp [h5]]
            have H1 := Lib.hid h1
            have H2 := Lib.hid h2
            have H3 := Lib.hid h3
            have H4 := Lib.hid h4
            have D5 : decide (d.accept < 0) = true := decide_eq_true h5
            clear h1 h2 h3 h4
            have b1 : 1 ≤ n ∧ n ≤ 36 := by simpa [inI] using H1.out
            have b3 : 0 ≤ d.first ∧ d.first ≤ n := by simpa [inI] using H3.out
            have b4 : 0 ≤ d.second ∧ d.second ≤ n - d.first := by simpa [inI] using H4.out
            go_enter Try.func59, Try.ntmps59
            go_wp2_with fail
            refine (in3_e _ H1.out).mono ?_
            rintro e w1 ⟨rfl, rfl⟩
            go_wp2_with fail
            refine (in3_e _ H2.out).mono ?_
            rintro e w1 ⟨rfl, rfl⟩
            go_wp2_with fail
            refine (in3_e _ H3.out).mono ?_
            rintro e w1 ⟨rfl, rfl⟩
            go_wp2_with fail
            refine (in3_e _ H4.out).mono ?_
            rintro e w1 ⟨rfl, rfl⟩
            go_wp2_with fail
            refine bodyPost_ret (v := .tuple #[rtV ⟨0, 0⟩, .int .i64 1]) ?_ rfl ⟨rfl, ?_⟩
            · simp [results, Try.results59, go_sem]
            · exact hB0
          · by_cases h6 : d.refuse ≤ d.accept
            · rw [show twiceR n m d = (⟨0, 0⟩, 1) by unfold twiceR twiceB; rw [if_neg]; simp [h6]]
              have H1 := Lib.hid h1
              have H2 := Lib.hid h2
              have H3 := Lib.hid h3
              have H4 := Lib.hid h4
              have D5 : decide (d.accept < 0) = false := decide_eq_false h5
              have D6 : decide (d.refuse ≤ d.accept) = true := decide_eq_true h6
              clear h1 h2 h3 h4
              have b1 : 1 ≤ n ∧ n ≤ 36 := by simpa [inI] using H1.out
              have b3 : 0 ≤ d.first ∧ d.first ≤ n := by simpa [inI] using H3.out
              have b4 : 0 ≤ d.second ∧ d.second ≤ n - d.first := by simpa [inI] using H4.out
              go_enter Try.func59, Try.ntmps59
              go_wp2_with fail
              refine (in3_e _ H1.out).mono ?_
              rintro e w1 ⟨rfl, rfl⟩
              go_wp2_with fail
              refine (in3_e _ H2.out).mono ?_
              rintro e w1 ⟨rfl, rfl⟩
              go_wp2_with fail
              refine (in3_e _ H3.out).mono ?_
              rintro e w1 ⟨rfl, rfl⟩
              go_wp2_with fail
              refine (in3_e _ H4.out).mono ?_
              rintro e w1 ⟨rfl, rfl⟩
              go_wp2_with fail
              refine bodyPost_ret (v := .tuple #[rtV ⟨0, 0⟩, .int .i64 1]) ?_ rfl ⟨rfl, ?_⟩
              · simp [results, Try.results59, go_sem]
              · exact hB0
            · by_cases h7 : d.first + 1 < d.refuse
              · rw [show twiceR n m d = (⟨0, 0⟩, 1) by unfold twiceR twiceB; rw [if_neg]; simp [h7]]
                have H1 := Lib.hid h1
                have H2 := Lib.hid h2
                have H3 := Lib.hid h3
                have H4 := Lib.hid h4
                have D5 : decide (d.accept < 0) = false := decide_eq_false h5
                have D6 : decide (d.refuse ≤ d.accept) = false := decide_eq_false h6
                have D7 : decide (d.first + 1 < d.refuse) = true := decide_eq_true h7
                clear h1 h2 h3 h4
                have b1 : 1 ≤ n ∧ n ≤ 36 := by simpa [inI] using H1.out
                have b3 : 0 ≤ d.first ∧ d.first ≤ n := by simpa [inI] using H3.out
                have b4 : 0 ≤ d.second ∧ d.second ≤ n - d.first := by simpa [inI] using H4.out
                go_enter Try.func59, Try.ntmps59
                go_wp2_with fail
                refine (in3_e _ H1.out).mono ?_
                rintro e w1 ⟨rfl, rfl⟩
                go_wp2_with fail
                refine (in3_e _ H2.out).mono ?_
                rintro e w1 ⟨rfl, rfl⟩
                go_wp2_with fail
                refine (in3_e _ H3.out).mono ?_
                rintro e w1 ⟨rfl, rfl⟩
                go_wp2_with fail
                refine (in3_e _ H4.out).mono ?_
                rintro e w1 ⟨rfl, rfl⟩
                go_wp2_with fail
                refine bodyPost_ret (v := .tuple #[rtV ⟨0, 0⟩, .int .i64 1]) ?_ rfl ⟨rfl, ?_⟩
                · simp [results, Try.results59, go_sem]
                · exact hB0
              · rcases Bool.eq_false_or_eq_true (inI d.together d.accept (d.first + d.second)) with h8 | h8
                · rw [show twiceR n m d = (ratioI (sumI (twT n m d) (d.first + 1).toNat) (chooseI n d.first * chooseI (n - d.first) d.second), 0) by unfold twiceR twiceB; rw [if_pos]; simp [h1, h2, h3, h4, h8]; omega]
                  have b1 : 1 ≤ n ∧ n ≤ 36 := by simpa [inI] using h1
                  have b2 : 0 ≤ m ∧ m ≤ n := by simpa [inI] using h2
                  have b3 : 0 ≤ d.first ∧ d.first ≤ n := by simpa [inI] using h3
                  have b4 : 0 ≤ d.second ∧ d.second ≤ n - d.first := by simpa [inI] using h4
                  have b8 : d.accept ≤ d.together ∧ d.together ≤ d.first + d.second := by simpa [inI] using h8
                  have H1 := Lib.hid h1
                  have H2 := Lib.hid h2
                  have H3 := Lib.hid h3
                  have H4 := Lib.hid h4
                  have H8 := Lib.hid h8
                  have D5 : decide (d.accept < 0) = false := decide_eq_false h5
                  have D6 : decide (d.refuse ≤ d.accept) = false := decide_eq_false h6
                  have D7 : decide (d.first + 1 < d.refuse) = false := decide_eq_false h7
                  clear h1 h2 h3 h4 h8
                  have c2 := choose_two (n := n) (a := d.first) (b := d.second) b3.1 b3.2 b1.2
                  have c3 := chooseI_pos (n := n) (k := d.first) b3.2
                  have c4 := chooseI_pos (n := n - d.first) (k := d.second) b4.2
                  have c5 : 0 < chooseI n d.first * chooseI (n - d.first) d.second := Int.mul_pos (by omega) (by omega)
                  have c6 := chooseI_le (n := n - d.first) d.second (by omega)
                  have c7 := chooseI_le (n := n) d.first (by omega)
                  have HT := Lib.hid (fun (j : Nat) (hj : (j : Int) ≤ d.first + 1) => twice_le (n := n) (m := m) (d := d) b2.1 b2.2 b4.1 b3.1 hj)
                  have HTT := Lib.hid (fun (k : Nat) => twT_le (n := n) (m := m) (d := d) (k := k) b2.1 b2.2 b4.1)
                  go_enter Try.func59, Try.ntmps59
                  go_wp2_with fail
                  refine (in3_e _ H1.out).mono ?_
                  rintro e w1 ⟨rfl, rfl⟩
                  go_wp2_with fail
                  refine (in3_e _ H2.out).mono ?_
                  rintro e w1 ⟨rfl, rfl⟩
                  go_wp2_with fail
                  refine (in3_e _ H3.out).mono ?_
                  rintro e w1 ⟨rfl, rfl⟩
                  go_wp2_with fail
                  refine (in3_e _ H4.out).mono ?_
                  rintro e w1 ⟨rfl, rfl⟩
                  go_wp2_with fail
                  refine (in3_e _ H8.out).mono ?_
                  rintro e w1 ⟨rfl, rfl⟩
                  go_wp2_with fail
                  refine (choose3_c _ _ _ (by omega) (by omega) b4.1).mono ?_
                  rintro e w2 ⟨rfl, hb2⟩
                  have hB2 : Below (w.heap.size + 2) ((w.alloc (.cells #[.int .i64 d.first, .int .i64 d.accept, .int .i64 d.refuse, .int .i64 d.second, .int .i64 d.together] 92)).alloc (.cells #[.int .i64 0, .int .i64 0] 53)) w2 := by simpa using hb2
                  go_wp2_with fail
                  go_loopw [9, 10] (fun a i wr => ∃ j : Nat, (j : Int) ≤ d.first + 1 ∧ i = .int .i64 j ∧ a = .int .i64 (sumI (twT n m d) j) ∧ Below (w.heap.size + 2) ((w.alloc (.cells #[.int .i64 d.first, .int .i64 d.accept, .int .i64 d.refuse, .int .i64 d.second, .int .i64 d.together] 92)).alloc (.cells #[.int .i64 0, .int .i64 0] 53)) wr) (fun _ i _ => (d.first + 1).toNat - (intOf i).toNat)
                  case atStart => exact ⟨0, by omega, rfl, rfl, hB2⟩
                  case round =>
                    obtain ⟨j, hj, rfl, rfl, hb⟩ := hrel
                    have hbs := hb.size
                    simp only [World.size_alloc] at hbs
                    have hz : w.heap.size < wr.heap.size := by omega
                    obtain ⟨hc, hf⟩ := bcellB hb
                    by_cases hlt : (j : Int) ≤ d.first
                    · have dlt : decide ((j : Int) ≤ d.first) = true := decide_eq_true hlt
                      have q1 := HT.out j (by omega)
                      have q2 := HT.out (j + 1) (by omega)
                      have q3 := HTT.out j
                      have hh : Hid (chooseI m j * chooseI (n - m) (d.first - j) = hit n m d.first j) := rfl
                      have k0 := hit_nonneg n m d.first j
                      have k1 : hit n m d.first j ≤ 126410606437752 := choose_mul_le b2.1 (by omega) (by omega)
                      have hstep : Hid (sumI (twT n m d) j + twT n m d j = sumI (twT n m d) (j + 1)) := rfl
                      have k2 : sumI (twT n m d) j + twT n m d j ≤ 4611686018427387904 := by have := hstep.out; omega
                      go_wp2
                      refine wp_region_grown (by kernel_rfl) (by kernel_rfl) fun hcg => ?_
                      have hhm : chooseI m j * chooseI (n - m) (d.first - j) = hit n m d.first j := hh.out
                      repeat (go_big_quiet_step (first | (go_at_call 121; first | exact Calls.grown (choose3_c _ _ _ b2.1 (by omega) (by omega)) | exact Calls.grown (choose3_c _ _ _ (by omega) (by omega) (by omega)))))
                      refine wpQuiet_nil ?_
                      intro _ hw'
                      obtain ⟨g, hw''⟩ := hw'
                      subst hw''
                      have hBg := hb.trans (g.b.mono (by omega))
                      have hgs := g.b.size
                      have hzg : w.heap.size < g.val.heap.size := by omega
                      obtain ⟨hcg2, hfg2⟩ := bcellB hBg
                      clear hcg hc hf hhm
                      by_cases f0 : hit n m d.first j = 0
                      · have e0 : (hit n m d.first j == 0) = true := by simpa using f0
                        have ht : Hid (sumI (twT n m d) (j + 1) = sumI (twT n m d) j) := by show sumI (twT n m d) (j + 1) = _; rw [sumI, show twT n m d j = 0 by unfold twT; rw [if_pos f0]]; omega
                        clear f0
                        go_wp2
                        go_roundw
                        case rel => exact ⟨j + 1, by omega, by go_num, by rw [ht.out], hBg⟩
                        case measure => simp [intOf]; omega
                      · have e0 : (hit n m d.first j == 0) = false := by simpa using f0
                        by_cases f1 : d.refuse ≤ j
                        · have e1 : decide (d.refuse ≤ (j : Int)) = true := decide_eq_true f1
                          have ht : Hid (sumI (twT n m d) (j + 1) = sumI (twT n m d) j) := by show sumI (twT n m d) (j + 1) = _; rw [sumI, show twT n m d j = 0 by unfold twT; rw [if_neg f0, if_pos f1]]; omega
                          clear f0
                          go_wp2
                          go_roundw
                          case rel => exact ⟨j + 1, by omega, by go_num, by rw [ht.out], hBg⟩
                          case measure => simp [intOf]; omega
                        · have e1 : decide (d.refuse ≤ (j : Int)) = false := decide_eq_false f1
                          by_cases f2 : (j : Int) ≤ d.accept
                          · have e2 : decide ((j : Int) ≤ d.accept) = true := decide_eq_true f2
                            have hval : Hid (twT n m d j = hit n m d.first j * chooseI (n - d.first) d.second) := by show twT n m d j = _; unfold twT; rw [if_neg f0, if_neg f1, if_pos f2]
                            have r1 : 0 ≤ hit n m d.first j * chooseI (n - d.first) d.second := by rw [← hval.out]; exact q3.1
                            have r2 : hit n m d.first j * chooseI (n - d.first) d.second ≤ 4611686018427387904 := by rw [← hval.out]; omega
                            have r3 : sumI (twT n m d) j + hit n m d.first j * chooseI (n - d.first) d.second ≤ 4611686018427387904 := by rw [← hval.out]; omega
                            clear f0
                            go_wp2
                            go_roundw
                            case rel => exact ⟨j + 1, by omega, by go_num, by rw [← hstep.out, hval.out], hBg⟩
                            case measure => simp [intOf]; omega
                          · have e2 : decide ((j : Int) ≤ d.accept) = false := decide_eq_false f2
                            by_cases f3 : (j : Int) ≤ d.together
                            · have e3 : decide ((j : Int) ≤ d.together) = true := decide_eq_true f3
                              have hp := hit_pos b2.1 b2.2 f0
                              have ha := atMost_le (n := n - d.first) (m := m - j) (t := d.second) hp.1 hp.2 b4.1 (d.together - j)
                              have hval : Hid (twT n m d j = hit n m d.first j * atMostI (n - d.first) (m - j) d.second (d.together - j)) := by show twT n m d j = _; unfold twT; rw [if_neg f0, if_neg f1, if_neg f2, if_pos f3]
                              have r1 : 0 ≤ hit n m d.first j * atMostI (n - d.first) (m - j) d.second (d.together - j) := by rw [← hval.out]; exact q3.1
                              have r2 : hit n m d.first j * atMostI (n - d.first) (m - j) d.second (d.together - j) ≤ 4611686018427387904 := by rw [← hval.out]; omega
                              have r3 : sumI (twT n m d) j + hit n m d.first j * atMostI (n - d.first) (m - j) d.second (d.together - j) ≤ 4611686018427387904 := by rw [← hval.out]; omega
                              clear f0
                              go_wp2_with fail
                              refine (atMost3_c _ _ _ _ _ hp.1 hp.2 (by omega) b4.1 b4.2).mono ?_
                              rintro e w3 ⟨rfl, hb3⟩
                              have hB3 := hBg.trans (hb3.mono (by omega))
                              go_wp2_with fail
                              go_roundw
                              case rel => exact ⟨j + 1, by omega, by go_num, by rw [← hstep.out, hval.out], hB3⟩
                              case measure => simp [intOf]; omega
                            · have e3 : decide ((j : Int) ≤ d.together) = false := decide_eq_false f3
                              have ht : Hid (sumI (twT n m d) (j + 1) = sumI (twT n m d) j) := by show sumI (twT n m d) (j + 1) = _; rw [sumI, show twT n m d j = 0 by unfold twT; rw [if_neg f0, if_neg f1, if_neg f2, if_neg f3]]; omega
                              clear f0
                              go_wp2
                              go_roundw
                              case rel => exact ⟨j + 1, by omega, by go_num, by rw [ht.out], hBg⟩
                              case measure => simp [intOf]; omega
                    · have dlt : decide ((j : Int) ≤ d.first) = false := decide_eq_false hlt
                      have hje : Hid (j = (d.first + 1).toNat) := by show j = _; omega
                      have q1 := HT.out j (by omega)
                      have hyw := (hb.block (w.heap.size + 1) (by omega)).trans HY.out
                      go_wp2_with fail
                      refine (choose3_c _ _ _ (by omega) (by omega) b3.1).mono ?_
                      rintro e w3 ⟨rfl, hb3⟩
                      go_wp2_with fail
                      refine (ratio3_c _ _ _ q1.1 c5 (by omega) (by omega)).mono ?_
                      rintro e w4 ⟨rfl, hb4⟩
                      have hb34 := below_then hb3 hb4
                      have hy := (hb34.block (w.heap.size + 1) (by omega)).trans hyw
                      have hB4 := hB0.trans ((hb.trans (hb34.mono (by omega))).mono (by omega))
                      have y0 := Joins.cell_of_block hy 0
                      have y1 := Joins.cell_of_block hy 1
                      have g0 := Joins.unfrozen_of_block hy 0
                      have g1 := Joins.unfrozen_of_block hy 1
                      have hp := put2 (.int .i64 (ratioI (sumI (twT n m d) j) (chooseI n d.first * chooseI (n - d.first) d.second)).num) (.int .i64 (ratioI (sumI (twT n m d) j) (chooseI n d.first * chooseI (n - d.first) d.second)).den) hy
                      have HP := Lib.hid hp
                      clear hp hc hf
                      go_wp2_with fail
                      refine bodyPost_ret (v := .tuple #[rtV (ratioI (sumI (twT n m d) (d.first + 1).toNat) (chooseI n d.first * chooseI (n - d.first) d.second)), .int .i64 0]) ?_ rfl ⟨rfl, ?_⟩
                      · rw [← hje.out]
                        simp [results, Try.results59, go_sem, HP.out.1, HP.out.2]
                      · exact (hB4.setCell (by simp) _).setCell (by simp) _
                · rw [show twiceR n m d = (⟨0, 0⟩, 1) by unfold twiceR twiceB; rw [if_neg]; simp [h8]]
                  have H1 := Lib.hid h1
                  have H2 := Lib.hid h2
                  have H3 := Lib.hid h3
                  have H4 := Lib.hid h4
                  have D5 : decide (d.accept < 0) = false := decide_eq_false h5
                  have D6 : decide (d.refuse ≤ d.accept) = false := decide_eq_false h6
                  have D7 : decide (d.first + 1 < d.refuse) = false := decide_eq_false h7
                  have H8 := Lib.hid h8
                  clear h1 h2 h3 h4 h8
                  have b1 : 1 ≤ n ∧ n ≤ 36 := by simpa [inI] using H1.out
                  have b3 : 0 ≤ d.first ∧ d.first ≤ n := by simpa [inI] using H3.out
                  have b4 : 0 ≤ d.second ∧ d.second ≤ n - d.first := by simpa [inI] using H4.out
                  go_enter Try.func59, Try.ntmps59
                  go_wp2_with fail
                  refine (in3_e _ H1.out).mono ?_
                  rintro e w1 ⟨rfl, rfl⟩
                  go_wp2_with fail
                  refine (in3_e _ H2.out).mono ?_
                  rintro e w1 ⟨rfl, rfl⟩
                  go_wp2_with fail
                  refine (in3_e _ H3.out).mono ?_
                  rintro e w1 ⟨rfl, rfl⟩
                  go_wp2_with fail
                  refine (in3_e _ H4.out).mono ?_
                  rintro e w1 ⟨rfl, rfl⟩
                  go_wp2_with fail
                  refine (in3_e _ H8.out).mono ?_
                  rintro e w1 ⟨rfl, rfl⟩
                  go_wp2_with fail
                  refine bodyPost_ret (v := .tuple #[rtV ⟨0, 0⟩, .int .i64 1]) ?_ rfl ⟨rfl, ?_⟩
                  · simp [results, Try.results59, go_sem]
                  · exact hB0
        · rw [show twiceR n m d = (⟨0, 0⟩, 1) by unfold twiceR twiceB; rw [if_neg]; simp [h4]]
          have H1 := Lib.hid h1
          have H2 := Lib.hid h2
          have H3 := Lib.hid h3
          have H4 := Lib.hid h4
          clear h1 h2 h3 h4
          have b1 : 1 ≤ n ∧ n ≤ 36 := by simpa [inI] using H1.out
          have b3 : 0 ≤ d.first ∧ d.first ≤ n := by simpa [inI] using H3.out
          go_enter Try.func59, Try.ntmps59
          go_wp2_with fail
          refine (in3_e _ H1.out).mono ?_
          rintro e w1 ⟨rfl, rfl⟩
          go_wp2_with fail
          refine (in3_e _ H2.out).mono ?_
          rintro e w1 ⟨rfl, rfl⟩
          go_wp2_with fail
          refine (in3_e _ H3.out).mono ?_
          rintro e w1 ⟨rfl, rfl⟩
          go_wp2_with fail
          refine (in3_e _ H4.out).mono ?_
          rintro e w1 ⟨rfl, rfl⟩
          go_wp2_with fail
          refine bodyPost_ret (v := .tuple #[rtV ⟨0, 0⟩, .int .i64 1]) ?_ rfl ⟨rfl, ?_⟩
          · simp [results, Try.results59, go_sem]
          · exact hB0
      · rw [show twiceR n m d = (⟨0, 0⟩, 1) by unfold twiceR twiceB; rw [if_neg]; simp [h3]]
        have H1 := Lib.hid h1
        have H2 := Lib.hid h2
        have H3 := Lib.hid h3
        clear h1 h2 h3
        go_enter Try.func59, Try.ntmps59
        go_wp2_with fail
        refine (in3_e _ H1.out).mono ?_
        rintro e w1 ⟨rfl, rfl⟩
        go_wp2_with fail
        refine (in3_e _ H2.out).mono ?_
        rintro e w1 ⟨rfl, rfl⟩
        go_wp2_with fail
        refine (in3_e _ H3.out).mono ?_
        rintro e w1 ⟨rfl, rfl⟩
        go_wp2_with fail
        refine bodyPost_ret (v := .tuple #[rtV ⟨0, 0⟩, .int .i64 1]) ?_ rfl ⟨rfl, ?_⟩
        · simp [results, Try.results59, go_sem]
        · exact hB0
    · rw [show twiceR n m d = (⟨0, 0⟩, 1) by unfold twiceR twiceB; rw [if_neg]; simp [h2]]
      have H1 := Lib.hid h1
      have H2 := Lib.hid h2
      clear h1 h2
      go_enter Try.func59, Try.ntmps59
      go_wp2_with fail
      refine (in3_e _ H1.out).mono ?_
      rintro e w1 ⟨rfl, rfl⟩
      go_wp2_with fail
      refine (in3_e _ H2.out).mono ?_
      rintro e w1 ⟨rfl, rfl⟩
      go_wp2_with fail
      refine bodyPost_ret (v := .tuple #[rtV ⟨0, 0⟩, .int .i64 1]) ?_ rfl ⟨rfl, ?_⟩
      · simp [results, Try.results59, go_sem]
      · exact hB0
  · rw [show twiceR n m d = (⟨0, 0⟩, 1) by unfold twiceR twiceB; rw [if_neg]; simp [h1]]
    have H1 := Lib.hid h1
    clear h1
    go_enter Try.func59, Try.ntmps59
    go_wp2_with fail
    refine (in3_e _ H1.out).mono ?_
    rintro e w1 ⟨rfl, rfl⟩
    go_wp2_with fail
    refine bodyPost_ret (v := .tuple #[rtV ⟨0, 0⟩, .int .i64 1]) ?_ rfl ⟨rfl, ?_⟩
    · simp [results, Try.results59, go_sem]
    · exact hB0
end Go.Proofs.Ytaaeipjnhjgjdaa
/- The smallest plan, by the reference. -/
namespace Go.Proofs.Ytaaeipjnhjgjdaa
open Go.RowKit

set_option maxHeartbeats 1600000 in
set_option maxRecDepth 100000 in
theorem Smallest3_c (n g m : Int) (a r : Rt) (w : World) :
    Calls Try.prog 64 #[.int .i64 n, .int .i64 g, .int .i64 m, rtV a, rtV r] w fun e w' => e = .returned (.tuple #[trV (smallestR n g m a r).1, .int .i64 (smallestR n g m a r).2]) ∧ Below w.heap.size w w' := by
  unfold rtV
  have hy0 := box3 w (.cells #[.int .i64 a.num, .int .i64 a.den] 53) (.cells #[.int .i64 r.num, .int .i64 r.den] 53) #[.int .i64 0, .int .i64 0] 80
  have HY := Lib.hid hy0
  have hB0 := below_then (below_alloc w (.cells #[.int .i64 a.num, .int .i64 a.den] 53)) (below_then (below_alloc _ (.cells #[.int .i64 r.num, .int .i64 r.den] 53)) (below_alloc _ (.cells #[.int .i64 0, .int .i64 0] 80)))
  clear hy0
  rcases Bool.eq_false_or_eq_true (inI n 1 50) with h1 | h1
  · by_cases h2 : g < 0
    · rw [show smallestR n g m a r = (⟨0, 0⟩, 1) by unfold smallestR smallB; rw [if_neg]; simp [h2]]
      have H1 := Lib.hid h1
      have D2 : decide (g < 0) = true := decide_eq_true h2
      clear h1
      go_enter Try.func64, Try.ntmps64
      go_wp2_with fail
      refine (in3_e _ H1.out).mono ?_
      rintro e w1 ⟨rfl, rfl⟩
      go_wp2_with fail
      refine bodyPost_ret (v := .tuple #[trV ⟨0, 0⟩, .int .i64 1]) ?_ rfl ⟨rfl, ?_⟩
      · simp [results, Try.results64, go_sem]
      · exact hB0
    · by_cases h3 : m ≤ g
      · rw [show smallestR n g m a r = (⟨0, 0⟩, 1) by unfold smallestR smallB; rw [if_neg]; simp [h3]]
        have H1 := Lib.hid h1
        have D2 : decide (g < 0) = false := decide_eq_false h2
        have D3 : decide (m ≤ g) = true := decide_eq_true h3
        clear h1
        go_enter Try.func64, Try.ntmps64
        go_wp2_with fail
        refine (in3_e _ H1.out).mono ?_
        rintro e w1 ⟨rfl, rfl⟩
        go_wp2_with fail
        refine bodyPost_ret (v := .tuple #[trV ⟨0, 0⟩, .int .i64 1]) ?_ rfl ⟨rfl, ?_⟩
        · simp [results, Try.results64, go_sem]
        · exact hB0
      · by_cases h4 : n < m
        · rw [show smallestR n g m a r = (⟨0, 0⟩, 1) by unfold smallestR smallB; rw [if_neg]; simp [h4]]
          have H1 := Lib.hid h1
          have D2 : decide (g < 0) = false := decide_eq_false h2
          have D3 : decide (m ≤ g) = false := decide_eq_false h3
          have D4 : decide (n < m) = true := decide_eq_true h4
          clear h1
          go_enter Try.func64, Try.ntmps64
          go_wp2_with fail
          refine (in3_e _ H1.out).mono ?_
          rintro e w1 ⟨rfl, rfl⟩
          go_wp2_with fail
          refine bodyPost_ret (v := .tuple #[trV ⟨0, 0⟩, .int .i64 1]) ?_ rfl ⟨rfl, ?_⟩
          · simp [results, Try.results64, go_sem]
          · exact hB0
        · rcases Bool.eq_false_or_eq_true (levelB a) with h5 | h5
          · rcases Bool.eq_false_or_eq_true (levelB r) with h6 | h6
            · have hsb : smallB n g m a r = true := by unfold smallB; simp [h1, h5, h6]; omega
              have b1 : 1 ≤ n ∧ n ≤ 50 := by simpa [inI] using h1
              have b5 := level_ok h5
              have b6 := level_ok h6
              have H1 := Lib.hid h1
              have H5 := Lib.hid h5
              have H6 := Lib.hid h6
              have HS := Lib.hid hsb
              have D2 : decide (g < 0) = false := decide_eq_false h2
              have D3 : decide (m ≤ g) = false := decide_eq_false h3
              have D4 : decide (n < m) = false := decide_eq_false h4
              have h2' : 0 ≤ g := by omega
              have h3' : g < m := by omega
              have h4' : m ≤ n := by omega
              clear h1 h5 h6 hsb h2 h3 h4
              obtain ⟨N, rfl⟩ := Int.eq_ofNat_of_zero_le (by omega : 0 ≤ n)
              go_enter Try.func64, Try.ntmps64
              go_wp2_with fail
              refine (in3_e _ H1.out).mono ?_
              rintro e w1 ⟨rfl, rfl⟩
              go_wp2_with fail
              refine (level3_b _ H5.out).mono ?_
              rintro e w1 ⟨rfl, hb1⟩
              obtain ⟨hc1, hf1⟩ := bcell hb1
              have hs1 := hb1.size
              simp only [World.size_alloc] at hs1
              have hz1 : w.heap.size + 1 < w1.heap.size := by omega
              have hz1b : w.heap.size + 1 + 1 < w1.heap.size := by omega
              have hy1 := (hb1.block (w.heap.size + 1 + 1) (by simp)).trans HY.out
              have hB1 := below_then hB0 hb1
              have y0 := Joins.cell_of_block hy1 0
              have y1 := Joins.cell_of_block hy1 1
              go_wp2_with fail
              refine (level3_b _ H6.out).mono ?_
              rintro e w2 ⟨rfl, hb2⟩
              have hs2 := hb2.size
              have hy2 := (hb2.block (w.heap.size + 1 + 1) (by omega)).trans hy1
              have hB2 := below_then hB1 hb2
              have hb12 := below_then hb1 hb2
              clear y0 y1 hc1 hf1
              have y0 := Joins.cell_of_block hy2 0
              have y1 := Joins.cell_of_block hy2 1
              go_wp2_with fail
              have hbb : Below (w.heap.size + 3) (((w.alloc (.cells #[.int .i64 a.num, .int .i64 a.den] 53)).alloc (.cells #[.int .i64 r.num, .int .i64 r.den] 53)).alloc (.cells #[.int .i64 0, .int .i64 0] 80)) w2 := by simpa using hb12
              clear y0 y1
              go_loopw [12] (fun i wr => ∃ j : Nat, j ≤ N + 1 ∧ i = .int .i64 j ∧ Hid ((plans j 0).find? (fun x => tellsB N g m a r x.1 x.2) = none) ∧ Below (w.heap.size + 3) (((w.alloc (.cells #[.int .i64 a.num, .int .i64 a.den] 53)).alloc (.cells #[.int .i64 r.num, .int .i64 r.den] 53)).alloc (.cells #[.int .i64 0, .int .i64 0] 80)) wr) (fun i _ => N + 1 - (intOf i).toNat)
              case atStart => exact ⟨0, by omega, rfl, rfl, hbb⟩
              case round =>
                obtain ⟨j, hj, rfl, hq, hb⟩ := hrel
                by_cases hlt : j ≤ N
                · have dlt : decide ((j : Int) ≤ N) = true := decide_eq_true (by omega)
                  have c1 := chooseI_nonneg (N : Int) j
                  have c2 := chooseI_le (n := (N : Int)) j b1.2
                  have e1 : 0 ≤ chooseI N j * a.num := Int.mul_nonneg c1 b5.2.2.1
                  have e2 : chooseI N j * a.num ≤ 126410606437752 * 10000 := Int.mul_le_mul c2 (by omega) b5.2.2.1 (by omega)
                  have e3 : 0 ≤ chooseI N j * r.num := Int.mul_nonneg c1 b6.2.2.1
                  have e4 : chooseI N j * r.num ≤ 126410606437752 * 10000 := Int.mul_le_mul c2 (by omega) b6.2.2.1 (by omega)
                  obtain ⟨wo, rfl⟩ : ∃ wo : World, wo = wr := ⟨_, rfl⟩
                  go_wp2_with fail
                  refine (choose3_c _ _ _ (by omega) b1.2 (by omega)).mono ?_
                  rintro e w3 ⟨rfl, hb3⟩
                  have hos := hb.size
                  simp only [World.size_alloc] at hos
                  have hb4 := hb.trans (hb3.mono (by omega))
                  go_wp2_with fail
                  go_loopw [14] (fun i wr => ∃ k : Nat, k ≤ j + 1 ∧ i = .int .i64 k ∧ Hid ((plans j k).find? (fun x => tellsB N g m a r x.1 x.2) = none) ∧ Below (w.heap.size + 3) (((w.alloc (.cells #[.int .i64 a.num, .int .i64 a.den] 53)).alloc (.cells #[.int .i64 r.num, .int .i64 r.den] 53)).alloc (.cells #[.int .i64 0, .int .i64 0] 80)) wr) (fun i _ => j + 1 - (intOf i).toNat)
                  case atStart => exact ⟨0, by omega, rfl, hq, hb4⟩
                  case round =>
                    clear hq hb hb3 hb4 hos
                    obtain ⟨k, hk, rfl, hq, hb⟩ := hrel
                    have hbs := hb.size
                    simp only [World.size_alloc] at hbs
                    have hz : w.heap.size < wr.heap.size := by omega
                    have hz2 : w.heap.size + 1 < wr.heap.size := by omega
                    obtain ⟨hc, hf⟩ := bcellB hb
                    by_cases hkl : k ≤ j
                    · have dkl : decide ((k : Int) ≤ j) = true := decide_eq_true (by omega)
                      have a0 := atMost_le (n := (N : Int)) (m := g) (t := (j : Int)) h2' (by omega) (by omega) k
                      have a1 := atMost_le (n := (N : Int)) (m := m) (t := (j : Int)) (by omega) h4' (by omega) k
                      have f1 : 0 ≤ atMostI N g j k * a.den := Int.mul_nonneg a0.1 (by omega)
                      have f2 : atMostI N g j k * a.den ≤ 126410606437752 * 10000 := Int.mul_le_mul (by omega) b5.2.1 (by omega) (by omega)
                      have f3 : 0 ≤ atMostI N m j k * r.den := Int.mul_nonneg a1.1 (by omega)
                      have f4 : atMostI N m j k * r.den ≤ 126410606437752 * 10000 := Int.mul_le_mul (by omega) b6.2.1 (by omega) (by omega)
                      by_cases t1 : chooseI N j * a.num ≤ atMostI N g j k * a.den
                      · have dt1 : decide (chooseI N j * a.num ≤ atMostI N g j k * a.den) = true := decide_eq_true t1
                        by_cases t2 : atMostI N m j k * r.den ≤ chooseI N j * r.num
                        · have dt2 : decide (atMostI N m j k * r.den ≤ chooseI N j * r.num) = true := decide_eq_true t2
                          have hfound : Hid (smallestP N g m a r = some (j, k)) := by
                            show smallestP N g m a r = _
                            unfold smallestP
                            rw [Int.toNat_natCast]
                            exact find_first (l := plans j k) (by rw [← plans_next]; exact plans_le (by omega) hlt) hq.out (by simp only [tellsB, dt1, dt2]; rfl)
                          go_wp2
                          refine wp_region_grown (by kernel_rfl) (by kernel_rfl) fun hcg => ?_
                          repeat (go_big_quiet_step (first | (go_at_call 119; exact Calls.grown (atMost3_c _ _ _ _ _ (by omega) (by omega) b1.2 (by omega) (by omega)))))
                          refine wpQuiet_nil ?_
                          intro _ hw'
                          obtain ⟨gw, hw''⟩ := hw'
                          subst hw''
                          have hB := hb.trans (gw.b.mono (by omega))
                          have hy := hB.block (w.heap.size + 1 + 1) (by omega)
                          have hy := hy.trans HY.out
                          have y0 := Joins.cell_of_block hy 0
                          have y1 := Joins.cell_of_block hy 1
                          have g0 := Joins.unfrozen_of_block hy 0
                          have g1 := Joins.unfrozen_of_block hy 1
                          have hp := put2 (.int .i64 (j : Int)) (.int .i64 (k : Int)) hy
                          have HP := Lib.hid hp
                          have hBe := hB0.trans (hB.mono (by omega))
                          clear hp hc hf hcg
                          go_wp2
                          refine bodyPost_ret (v := .tuple #[trV ⟨j, k⟩, .int .i64 0]) ?_ rfl ⟨by rw [smallest_some HS.out hfound.out], ?_⟩
                          · simp [results, Try.results64, go_sem, HP.out.1, HP.out.2]
                          · exact (hBe.setCell (by simp; omega) _).setCell (by simp; omega) _
                        · have dt2 : decide (atMostI N m j k * r.den ≤ chooseI N j * r.num) = false := decide_eq_false t2
                          have hno : Hid ((plans j (k + 1)).find? (fun x => tellsB N g m a r x.1 x.2) = none) := by show List.find? _ (plans j (k + 1)) = none; rw [plans_next]; exact find_no hq.out (by simp only [tellsB, dt2, Bool.and_false])
                          go_wp2
                          refine wp_region_grown (by kernel_rfl) (by kernel_rfl) fun hcg => ?_
                          repeat (go_big_quiet_step (first | (go_at_call 119; exact Calls.grown (atMost3_c _ _ _ _ _ (by omega) (by omega) b1.2 (by omega) (by omega)))))
                          refine wpQuiet_nil ?_
                          intro _ hw'
                          obtain ⟨gw, hw''⟩ := hw'
                          subst hw''
                          have hB := hb.trans (gw.b.mono (by omega))
                          go_wp2
                          go_roundw
                          case rel => exact ⟨k + 1, by omega, by go_num, hno, hB⟩
                          case measure => simp [intOf]; omega
                      · have dt1 : decide (chooseI N j * a.num ≤ atMostI N g j k * a.den) = false := decide_eq_false t1
                        have hno : Hid ((plans j (k + 1)).find? (fun x => tellsB N g m a r x.1 x.2) = none) := by show List.find? _ (plans j (k + 1)) = none; rw [plans_next]; exact find_no hq.out (by simp only [tellsB, dt1, Bool.false_and])
                        go_wp2
                        refine wp_region_grown (by kernel_rfl) (by kernel_rfl) fun hcg => ?_
                        repeat (go_big_quiet_step (first | (go_at_call 119; exact Calls.grown (atMost3_c _ g _ _ _ h2' (by omega) b1.2 (by omega) (by omega)))))
                        refine wpQuiet_nil ?_
                        intro _ hw'
                        obtain ⟨gw, hw''⟩ := hw'
                        subst hw''
                        have hB := hb.trans (gw.b.mono (by omega))
                        go_wp2
                        go_roundw
                        case rel => exact ⟨k + 1, by omega, by go_num, hno, hB⟩
                        case measure => simp [intOf]; omega
                    · obtain rfl : k = j + 1 := by omega
                      rw [plans_row] at hq
                      have dkl : decide (((j + 1 : Nat) : Int) ≤ j) = false := decide_eq_false (by omega)
                      go_wp2
                      go_roundw
                      case rel => exact ⟨j + 1, by omega, by go_num, hq, hb⟩
                      case measure => simp [intOf]; omega
                · obtain rfl : j = N + 1 := by omega
                  have hnone : Hid (smallestP N g m a r = none) := by show smallestP N g m a r = _; unfold smallestP; rw [Int.toNat_natCast]; exact hq.out
                  have hos := hb.size
                  simp only [World.size_alloc] at hos
                  have hy := (hb.block (w.heap.size + 1 + 1) (by omega)).trans HY.out
                  have y0 := Joins.cell_of_block hy 0
                  have y1 := Joins.cell_of_block hy 1
                  have g0 := Joins.unfrozen_of_block hy 0
                  have g1 := Joins.unfrozen_of_block hy 1
                  have hp := put2 (.int .i64 0) (.int .i64 0) hy
                  have HP := Lib.hid hp
                  have hBe := hB0.trans (hb.mono (by omega))
                  clear hp
                  go_wp2
                  refine bodyPost_ret (v := .tuple #[trV ⟨0, 0⟩, .int .i64 5]) ?_ rfl ⟨by rw [smallest_none HS.out hnone.out], ?_⟩
                  · simp [results, Try.results64, go_sem, HP.out.1, HP.out.2]
                  · exact (hBe.setCell (by simp; omega) _).setCell (by simp; omega) _
            · rw [show smallestR n g m a r = (⟨0, 0⟩, 1) by unfold smallestR smallB; rw [if_neg]; simp [h6]]
              have H1 := Lib.hid h1
              have D2 : decide (g < 0) = false := decide_eq_false h2
              have D3 : decide (m ≤ g) = false := decide_eq_false h3
              have D4 : decide (n < m) = false := decide_eq_false h4
              have H5 := Lib.hid h5
              have H6 := Lib.hid h6
              clear h1 h5 h6
              go_enter Try.func64, Try.ntmps64
              go_wp2_with fail
              refine (in3_e _ H1.out).mono ?_
              rintro e w1 ⟨rfl, rfl⟩
              go_wp2_with fail
              refine (level3_b _ H5.out).mono ?_
              rintro e w1 ⟨rfl, hb1⟩
              obtain ⟨hc1, hf1⟩ := bcell hb1
              have hs1 := hb1.size
              simp only [World.size_alloc] at hs1
              have hz1 : w.heap.size + 1 < w1.heap.size := by omega
              have hz1b : w.heap.size + 1 + 1 < w1.heap.size := by omega
              have hy1 := (hb1.block (w.heap.size + 1 + 1) (by simp)).trans HY.out
              have hB1 := below_then hB0 hb1
              have y0 := Joins.cell_of_block hy1 0
              have y1 := Joins.cell_of_block hy1 1
              go_wp2_with fail
              refine (level3_b _ H6.out).mono ?_
              rintro e w2 ⟨rfl, hb2⟩
              have hs2 := hb2.size
              have hy2 := (hb2.block (w.heap.size + 1 + 1) (by omega)).trans hy1
              have hB2 := below_then hB1 hb2
              have hb12 := below_then hb1 hb2
              clear y0 y1 hc1 hf1
              have y0 := Joins.cell_of_block hy2 0
              have y1 := Joins.cell_of_block hy2 1
              have hp := put2 (.int .i64 0) (.int .i64 0) hy2
              have g0 := Joins.unfrozen_of_block hy2 0
              have g1 := Joins.unfrozen_of_block hy2 1
              have HP := Lib.hid hp
              clear hp
              go_wp2_with fail
              refine bodyPost_ret (v := .tuple #[trV ⟨0, 0⟩, .int .i64 1]) ?_ rfl ⟨rfl, ?_⟩
              · simp [results, Try.results64, go_sem, HP.out.1, HP.out.2]
              · exact (hB2.setCell (by simp; omega) _).setCell (by simp; omega) _
          · rw [show smallestR n g m a r = (⟨0, 0⟩, 1) by unfold smallestR smallB; rw [if_neg]; simp [h5]]
            have H1 := Lib.hid h1
            have D2 : decide (g < 0) = false := decide_eq_false h2
            have D3 : decide (m ≤ g) = false := decide_eq_false h3
            have D4 : decide (n < m) = false := decide_eq_false h4
            have H5 := Lib.hid h5
            clear h1 h5
            go_enter Try.func64, Try.ntmps64
            go_wp2_with fail
            refine (in3_e _ H1.out).mono ?_
            rintro e w1 ⟨rfl, rfl⟩
            go_wp2_with fail
            refine (level3_b _ H5.out).mono ?_
            rintro e w1 ⟨rfl, hb1⟩
            obtain ⟨hc1, hf1⟩ := bcell hb1
            have hs1 := hb1.size
            simp only [World.size_alloc] at hs1
            have hz1 : w.heap.size + 1 < w1.heap.size := by omega
            have hz1b : w.heap.size + 1 + 1 < w1.heap.size := by omega
            have hy1 := (hb1.block (w.heap.size + 1 + 1) (by simp)).trans HY.out
            have hB1 := below_then hB0 hb1
            have y0 := Joins.cell_of_block hy1 0
            have y1 := Joins.cell_of_block hy1 1
            have hp := put2 (.int .i64 0) (.int .i64 0) hy1
            have g0 := Joins.unfrozen_of_block hy1 0
            have g1 := Joins.unfrozen_of_block hy1 1
            have HP := Lib.hid hp
            clear hp
            go_wp2_with fail
            refine bodyPost_ret (v := .tuple #[trV ⟨0, 0⟩, .int .i64 1]) ?_ rfl ⟨rfl, ?_⟩
            · simp [results, Try.results64, go_sem, HP.out.1, HP.out.2]
            · exact (hB1.setCell (by simp; omega) _).setCell (by simp; omega) _
  · rw [show smallestR n g m a r = (⟨0, 0⟩, 1) by unfold smallestR smallB; rw [if_neg]; simp [h1]]
    have H1 := Lib.hid h1
    clear h1
    go_enter Try.func64, Try.ntmps64
    go_wp2_with fail
    refine (in3_e _ H1.out).mono ?_
    rintro e w1 ⟨rfl, rfl⟩
    go_wp2_with fail
    refine bodyPost_ret (v := .tuple #[trV ⟨0, 0⟩, .int .i64 1]) ?_ rfl ⟨rfl, ?_⟩
    · simp [results, Try.results64, go_sem]
    · exact hB0
end Go.Proofs.Ytaaeipjnhjgjdaa
/- The shortest span that is believed, by the reference. -/
namespace Go.Proofs.Ytaaeipjnhjgjdaa
open Go.RowKit

set_option maxHeartbeats 1600000 in
set_option maxRecDepth 100000 in
theorem Shortest3_c (b : Bt) (s : Int) (r : Rt) (w : World) :
    Calls Try.prog 61 #[btV b, .int .i64 s, rtV r] w fun e w' => e = .returned (.tuple #[spV (shortestR b s r).1, .int .i64 (shortestR b s r).2]) ∧ Below w.heap.size w w' := by
  have hy0 := box3 w (.cells (btC b) 34) (.cells #[.int .i64 r.num, .int .i64 r.den] 53) #[.int .i64 0, .int .i64 0] 31
  unfold btC at hy0
  have HY := Lib.hid hy0
  have hB0 := below_then (below_alloc w (.cells (btC b) 34)) (below_then (below_alloc _ (.cells #[.int .i64 r.num, .int .i64 r.den] 53)) (below_alloc _ (.cells #[.int .i64 0, .int .i64 0] 31)))
  unfold btC at hB0
  clear hy0
  unfold btV rtV
  by_cases h : kindI b s = 0
  · have hd : (kindI b s == 0) = true := by simpa using h
    rcases Bool.eq_false_or_eq_true (levelB r) with hlv | hlv
    · have hask : askI b s r = 0 := by unfold askI; rw [if_neg (by omega), hlv]; rfl
      have hdn : (kindI b s != 0) = false := by simpa using h
      obtain ⟨hck, hs0, hs2⟩ := kind_ok h
      have hb4 := level_ok hlv
      have htp := total_pos hck s
      have hwn := weights_nonneg b s
      have hn := right_n (check_ok hck).1
      have hwl := weights_len b s
      obtain ⟨n, rfl⟩ := Int.eq_ofNat_of_zero_le hs0
      have hn3 : n < 3 := by omega
      have hlen51 : (weightsL b n).length ≤ 51 := by omega
      obtain ⟨N, hN⟩ := Int.eq_ofNat_of_zero_le (by omega : 0 ≤ b.n)
      have hNt : b.n.toNat = N := by omega
      have hNb : (N : Int) ≤ b.n ∧ b.n ≤ N := by omega
      obtain ⟨hNb1, hNb2⟩ := hNb
      have hN50 : N ≤ 50 := by omega
      have hspan : ∀ p : Sp, 0 ≤ spanI (weightsL b n) p ∧ spanI (weightsL b n) p ≤ 495918532948104 := fun p => by
        have := spanP_le (s := p) hwn (Nat.le_refl (weightsL b n).length)
        rw [← spanI_eq, ← totalI_eq] at this
        omega
      have e1 : 0 ≤ totalI (weightsL b n) * r.num := Int.mul_nonneg (by omega) hb4.2.2.1
      have e2 : totalI (weightsL b n) * r.num ≤ 495918532948104 * 10000 := Int.mul_le_mul htp.2 (by omega) hb4.2.2.1 (by omega)
      have HSP := Lib.hid hspan
      have HC := Lib.hid hck
      have HW := Lib.hid hwn
      have HL := Lib.hid hlv
      have HA := Lib.hid hask
      have HN := Lib.hid hN
      have HT := Lib.hid hNt
      clear hck hwn hwl hn hlv h hask hN hNt hspan
      go_enter Try.func61, Try.ntmps61
      go_wp2_with fail
      refine (kind3_c b _ _).mono ?_
      rintro e w1 ⟨rfl, hb1⟩
      obtain ⟨hc1, hf1⟩ := bcell hb1
      have hs1 := hb1.size
      simp only [World.size_alloc] at hs1
      have hz1 : w.heap.size < w1.heap.size := by omega
      have hz1' : w.heap.size + 1 < w1.heap.size := by omega
      go_wp2_with fail
      refine (level3_b _ HL.out).mono ?_
      rintro e w2 ⟨rfl, hb2⟩
      obtain ⟨hc2, hf2⟩ := bcell hb2
      have hs2' := hb2.size
      have hz2 : w.heap.size < w2.heap.size := by omega
      go_wp2_with fail
      refine (weights3_i b n _ HC.out hn3).mono ?_
      rintro e w3 ⟨v, rfl, hv, hb3⟩
      have hb13 := below_then hb1 (below_then hb2 hb3)
      have hs3 := hb3.size
      obtain ⟨A, cap, rfl, hcap, hnn, -⟩ := id hv
      clear hc1 hf1 hc2 hf2
      obtain ⟨hc3, hf3⟩ := bcell hb13
      go_wp2_with fail
      refine (total3_c _ _ _ hv hlen51 HW.out htp.2).mono ?_
      rintro e w4 ⟨rfl, hb4'⟩
      have hb14 := below_then hb13 hb4'
      have hv4 := hv.later hb4'
      have hs4 := hb4'.size
      clear hc3 hf3
      obtain ⟨hc4, hf4⟩ := bcell hb14
      have hz4 : w.heap.size < w4.heap.size := by omega
      go_wp2_with fail
      clear hc4 hf4
      go_loopw [12] (fun i wr => ∃ j : Nat, j ≤ N + 1 ∧ i = .int .i64 j ∧ Hid ((spansL N j 0).find? (fun x => enoughB (weightsL b n) r x.1 x.2) = none) ∧ Below (w4.heap.size + 1) (w4.alloc (.cells #[.int .i64 0, .int .i64 b.n] 31)) wr) (fun i _ => N + 1 - (intOf i).toNat)
      case atStart => exact ⟨0, by omega, rfl, rfl, Below.refl _ _⟩
      case round =>
        obtain ⟨j, hj, rfl, hq, hb⟩ := hrel
        have hbr := below_then hb14 (below_then (below_alloc w4 (.cells #[.int .i64 0, .int .i64 b.n] 31)) (hb.mono (by simp)))
        have hbrs := hb.size
        simp only [World.size_alloc] at hbrs
        have hzr : w.heap.size < wr.heap.size := by omega
        by_cases hlt : j ≤ N
        · have dlt : decide ((j : Int) ≤ b.n) = true := decide_eq_true (by omega)
          obtain ⟨wo, rfl⟩ : ∃ wo : World, wo = wr := ⟨_, rfl⟩
          obtain ⟨hc, hf⟩ := bcell hbr
          go_wp2_with fail
          clear hc hf
          go_loopw [13] (fun i wr => ∃ k : Nat, k ≤ N + 1 - j ∧ i = .int .i64 k ∧ Hid ((spansL N j k).find? (fun x => enoughB (weightsL b n) r x.1 x.2) = none) ∧ Below (w4.heap.size + 1) (w4.alloc (.cells #[.int .i64 0, .int .i64 b.n] 31)) wr) (fun i _ => N + 1 - (intOf i).toNat)
          case atStart => exact ⟨0, by omega, rfl, hq, hb⟩
          case round =>
            clear hq hb hbr hbrs hzr
            obtain ⟨k, hk, rfl, hq, hb⟩ := hrel
            have hbr := below_then hb14 (below_then (below_alloc w4 (.cells #[.int .i64 0, .int .i64 b.n] 31)) (hb.mono (by simp)))
            have hbrs := hb.size
            simp only [World.size_alloc] at hbrs
            have hzr : w.heap.size < wr.heap.size := by omega
            have hzr2 : w.heap.size + 1 < wr.heap.size := by omega
            obtain ⟨hc, hf⟩ := bcell hbr
            have hv5 := hv4.later (below_then (below_alloc w4 (.cells #[.int .i64 0, .int .i64 b.n] 31)) (hb.mono (by simp)))
            by_cases hkl : k ≤ N - j
            · have dkl : decide ((k : Int) + j ≤ b.n) = true := decide_eq_true (by omega)
              have hsp := HSP.out ⟨k, (k : Int) + j⟩
              have f1 : 0 ≤ spanI (weightsL b n) ⟨k, (k : Int) + j⟩ * r.den := Int.mul_nonneg hsp.1 (by omega)
              have f2 : spanI (weightsL b n) ⟨k, (k : Int) + j⟩ * r.den ≤ 495918532948104 * 10000 := Int.mul_le_mul hsp.2 hb4.2.1 (by omega) (by omega)
              by_cases t1 : totalI (weightsL b n) * r.num ≤ spanI (weightsL b n) ⟨k, (k : Int) + j⟩ * r.den
              · have dt1 : decide (totalI (weightsL b n) * r.num ≤ spanI (weightsL b n) ⟨k, (k : Int) + j⟩ * r.den) = true := decide_eq_true t1
                have hfound : Hid (shortestP b n r = some (j, k)) := by
                  show shortestP b n r = _
                  unfold shortestP
                  rw [HT.out]
                  exact find_first (l := spansL N j k) (by rw [← spansL_next]; exact spansL_le (by omega) hlt) hq.out (by simp only [enoughB, dt1])
                go_wp2
                refine wp_region_grown (by kernel_rfl) (by kernel_rfl) fun hcg => ?_
                repeat (go_big_quiet_step (first | (go_at_call 99; exact Calls.grown (weight3_c (weightsL b n) ⟨k, (k : Int) + j⟩ _ _ (hv5.later (below_then (below_alloc _ _) (Gr.b _))) hlen51 HW.out htp.2))))
                refine wpQuiet_nil ?_
                intro _ hw'
                obtain ⟨g, hw''⟩ := hw'
                subst hw''
                have hgs := g.b.size
                simp only [World.size_alloc] at hgs
                have hzg : wr.heap.size < g.val.heap.size := by omega
                have hy := (g.b.block (w.heap.size + 1 + 1) (by simp; omega)).trans ((Below.heap_alloc _ _ _ (by omega)).trans ((hbr.block (w.heap.size + 1 + 1) (by simp)).trans HY.out))
                have y0 := Joins.cell_of_block hy 0
                have y1 := Joins.cell_of_block hy 1
                have g0 := Joins.unfrozen_of_block hy 0
                have g1 := Joins.unfrozen_of_block hy 1
                have hp := put2 (.int .i64 (k : Int)) (.int .i64 ((k : Int) + j)) hy
                have HP := Lib.hid hp
                have hBe := below_then hB0 (below_then hbr (below_then (below_alloc _ _) g.b))
                obtain ⟨hcg2, hfg2⟩ := bcell g.b
                clear hp hc hf hcg
                go_wp2
                refine bodyPost_ret (v := .tuple #[spV ⟨k, (k : Int) + j⟩, .int .i64 0]) ?_ rfl ⟨by rw [shortest_some HA.out hfound.out], ?_⟩
                · simp [results, Try.results61, go_sem, HP.out.1, HP.out.2]
                · exact (hBe.setCell (by simp; omega) _).setCell (by simp; omega) _
              · have dt1 : decide (totalI (weightsL b n) * r.num ≤ spanI (weightsL b n) ⟨k, (k : Int) + j⟩ * r.den) = false := decide_eq_false t1
                have hno : Hid ((spansL N j (k + 1)).find? (fun x => enoughB (weightsL b n) r x.1 x.2) = none) := by show List.find? _ (spansL N j (k + 1)) = none; rw [spansL_next]; exact find_no hq.out (by simp only [enoughB, dt1])
                go_wp2
                refine wp_region_grown (by kernel_rfl) (by kernel_rfl) fun hcg => ?_
                repeat (go_big_quiet_step (first | (go_at_call 99; exact Calls.grown (weight3_c (weightsL b n) ⟨k, (k : Int) + j⟩ _ _ (hv5.later (below_then (below_alloc _ _) (Gr.b _))) hlen51 HW.out htp.2))))
                refine wpQuiet_nil ?_
                intro _ hw'
                obtain ⟨g, hw''⟩ := hw'
                subst hw''
                have hB := hb.trans ((below_then (below_alloc wr _) g.b).mono (by omega))
                clear hcg hc hf
                go_wp2
                go_roundw
                case rel => exact ⟨k + 1, by omega, by go_num, hno, hB⟩
                case measure => simp [intOf]; omega
            · obtain rfl : k = N + 1 - j := by omega
              rw [spansL_row] at hq
              have dkl : decide (((N + 1 - j : Nat) : Int) + j ≤ b.n) = false := decide_eq_false (by omega)
              go_wp2
              go_roundw
              case rel => exact ⟨j + 1, by omega, by go_num, hq, hb⟩
              case measure => simp [intOf]; omega
        · obtain rfl : j = N + 1 := by omega
          have hnone : Hid (shortestP b n r = none) := by show shortestP b n r = _; unfold shortestP; rw [HT.out]; exact hq.out
          have hy := (hbr.block (w.heap.size + 1 + 1) (by simp)).trans HY.out
          have y0 := Joins.cell_of_block hy 0
          have y1 := Joins.cell_of_block hy 1
          have g0 := Joins.unfrozen_of_block hy 0
          have g1 := Joins.unfrozen_of_block hy 1
          have ho := (hb.block w4.heap.size (by omega)).trans (heap_alloc_new w4 (.cells #[.int .i64 0, .int .i64 b.n] 31))
          have o0 := Joins.cell_of_block ho 0
          have o1 := Joins.cell_of_block ho 1
          have hp := put2 (.int .i64 0) (.int .i64 b.n) hy
          have HP := Lib.hid hp
          have hBe := below_then hB0 hbr
          obtain ⟨hc, hf⟩ := bcell hbr
          clear hp
          go_wp2
          refine bodyPost_ret (v := .tuple #[spV ⟨0, b.n⟩, .int .i64 0]) ?_ rfl ⟨by rw [shortest_none HA.out hnone.out], ?_⟩
          · simp [results, Try.results61, go_sem, HP.out.1, HP.out.2]
          · exact (hBe.setCell (by simp; omega) _).setCell (by simp; omega) _
    · have hask : askI b s r = 1 := by unfold askI; rw [if_neg (by omega), hlv]; rfl
      rw [show shortestR b s r = (⟨0, 0⟩, 1) by rw [shortest_err (by omega), hask]]
      have hdn : (kindI b s != 0) = false := by simpa using h
      have HL := Lib.hid hlv
      clear hlv h hask
      go_enter Try.func61, Try.ntmps61
      go_wp2_with fail
      refine (kind3_c b _ _).mono ?_
      rintro e w1 ⟨rfl, hb1⟩
      obtain ⟨hc1, hf1⟩ := bcell hb1
      have hs1 := hb1.size
      simp only [World.size_alloc] at hs1
      have hz1' : w.heap.size + 1 < w1.heap.size := by omega
      go_wp2_with fail
      refine (level3_b _ HL.out).mono ?_
      rintro e w2 ⟨rfl, hb2⟩
      have hb12 := below_then hb1 hb2
      have hy := (hb12.block (w.heap.size + 1 + 1) (by simp)).trans HY.out
      have y0 := Joins.cell_of_block hy 0
      have y1 := Joins.cell_of_block hy 1
      have g0 := Joins.unfrozen_of_block hy 0
      have g1 := Joins.unfrozen_of_block hy 1
      have hp := put2 (.int .i64 0) (.int .i64 0) hy
      have HP := Lib.hid hp
      have hBe := below_then hB0 hb12
      clear hp hc1 hf1
      go_wp2_with fail
      refine bodyPost_ret (v := .tuple #[spV ⟨0, 0⟩, .int .i64 1]) ?_ rfl ⟨rfl, ?_⟩
      · simp [results, Try.results61, go_sem, HP.out.1, HP.out.2]
      · exact (hBe.setCell (by simp; omega) _).setCell (by simp; omega) _
  · have hask : askI b s r = kindI b s := by unfold askI; rw [if_pos h]
    rw [show shortestR b s r = (⟨0, 0⟩, kindI b s) by rw [shortest_err (by omega), hask]]
    have hd : (kindI b s == 0) = false := by simpa using h
    have hdn : (kindI b s != 0) = true := by simpa using h
    clear h hask
    go_enter Try.func61, Try.ntmps61
    go_wp2_with fail
    refine (kind3_c b _ _).mono ?_
    rintro e w1 ⟨rfl, hb1⟩
    have hy := (hb1.block (w.heap.size + 1 + 1) (by simp)).trans HY.out
    have y0 := Joins.cell_of_block hy 0
    have y1 := Joins.cell_of_block hy 1
    have g0 := Joins.unfrozen_of_block hy 0
    have g1 := Joins.unfrozen_of_block hy 1
    have hp := put2 (.int .i64 0) (.int .i64 0) hy
    have HP := Lib.hid hp
    have hBe := below_then hB0 hb1
    clear hp
    go_wp2_with fail
    refine bodyPost_ret (v := .tuple #[spV ⟨0, 0⟩, .int .i64 (kindI b s)]) ?_ rfl ⟨rfl, ?_⟩
    · simp [results, Try.results61, go_sem, HP.out.1, HP.out.2]
    · exact (hBe.setCell (by simp; omega) _).setCell (by simp; omega) _

theorem CheckShortest3_c (b : Bt) (s : Int) (r : Rt) (p : Sp) (w : World) :
    Calls Try.prog 63 #[btV b, .int .i64 s, rtV r, spV p] w fun e w' => e = .returned (.int .i64 (checkShortI b s r p)) ∧ Below w.heap.size w w' := by
  have heq := Try.neSp
  unfold btV rtV spV
  by_cases h : (shortestR b s r).2 = 0
  · have hd : ((shortestR b s r).2 != 0) = false := by simpa using h
    by_cases h2 : (shortestR b s r).1.lo = p.lo ∧ (shortestR b s r).1.hi = p.hi
    · have hd2 : (!((shortestR b s r).1.lo == p.lo && (shortestR b s r).1.hi == p.hi)) = false := by rw [h2.1, h2.2]; simp
      have hv : Hid (checkShortI b s r p = 0) := by show checkShortI b s r p = _; unfold checkShortI; rw [if_neg (by omega), if_pos h2]
      clear h h2
      go_enter Try.func63, Try.ntmps63
      go_wp2_with fail
      refine (Shortest3_c b s r _).mono ?_
      rintro e w1 ⟨rfl, hb1⟩
      obtain ⟨hc1, hf1⟩ := bcell hb1
      have hs1 := hb1.size
      simp only [World.size_alloc] at hs1
      have hz1 : w.heap.size + 1 + 1 < w1.heap.size := by omega
      go_wp2_with fail
      go_ret
      exact ⟨ret_int hv.out.symm, below_then (below_alloc _ _) (below_then (below_alloc _ _) (below_then (below_alloc _ _) (below_then hb1 (below_alloc _ _))))⟩
    · have hd2 : (!((shortestR b s r).1.lo == p.lo && (shortestR b s r).1.hi == p.hi)) = true := by simp; omega
      have hv : Hid (checkShortI b s r p = 8) := by show checkShortI b s r p = _; unfold checkShortI; rw [if_neg (by omega), if_neg h2]
      clear h h2
      go_enter Try.func63, Try.ntmps63
      go_wp2_with fail
      refine (Shortest3_c b s r _).mono ?_
      rintro e w1 ⟨rfl, hb1⟩
      obtain ⟨hc1, hf1⟩ := bcell hb1
      have hs1 := hb1.size
      simp only [World.size_alloc] at hs1
      have hz1 : w.heap.size + 1 + 1 < w1.heap.size := by omega
      go_wp2_with fail
      go_ret
      exact ⟨ret_int hv.out.symm, below_then (below_alloc _ _) (below_then (below_alloc _ _) (below_then (below_alloc _ _) (below_then hb1 (below_alloc _ _))))⟩
  · have hd : ((shortestR b s r).2 != 0) = true := by simpa using h
    have hv : Hid (checkShortI b s r p = (shortestR b s r).2) := by show checkShortI b s r p = _; unfold checkShortI; rw [if_pos h]
    clear h
    go_enter Try.func63, Try.ntmps63
    go_wp2_with fail
    refine (Shortest3_c b s r _).mono ?_
    rintro e w1 ⟨rfl, hb1⟩
    go_wp2_with fail
    go_ret
    exact ⟨ret_int hv.out.symm, below_then (below_alloc _ _) (below_then (below_alloc _ _) (below_then (below_alloc _ _) (below_then hb1 (below_alloc _ _))))⟩
end Go.Proofs.Ytaaeipjnhjgjdaa
