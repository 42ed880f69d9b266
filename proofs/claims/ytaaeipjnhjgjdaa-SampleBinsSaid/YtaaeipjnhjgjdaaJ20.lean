/- Texts joined: 3ProgL. -/
import Derived.Test.YtaaeipjnhjgjdaaJ18
/- The check of a batch, by package sample. -/
namespace Go.Proofs.Ytaaeipjnhjgjdaa
open Go Go.RowKit Go.Shelf
attribute [local go_sem] Oper.semAt_some

def okS (p : Sp) (n : Int) : Bool := decide (0 ≤ p.lo) && decide (p.lo ≤ p.hi) && decide (p.hi ≤ n)
theorem spans_ok (b : Bt) : spansB b = (okS b.k0 b.n && okS b.k1 b.n && okS b.k2 b.n) := rfl
theorem rightB_eq (b : Bt) : rightB b = (inI b.n 1 50 && upToB b.s b.n && (okS b.k0 b.n && okS b.k1 b.n && okS b.k2 b.n)) := by
  unfold rightB
  rw [spans_ok]
  by_cases h : inI b.n 1 50 = true
  · have hn : 1 ≤ b.n ∧ b.n ≤ 50 := (by simpa [inI] using h)
    rw [upTo_all hn.2, h, Bool.true_and, Bool.true_and]
  · rw [Bool.not_eq_true] at h; rw [h]; simp
theorem sidx0 (a b c d e f : Int) (w : World) : (Instr.index 32 (.agg #[.int .i64 a, .int .i64 b, .int .i64 c, .int .i64 d, .int .i64 e, .int .i64 f]) (.int .i64 0)).run Try.prog w = .ok (.agg #[.int .i64 a, .int .i64 b]) w := by kernel_rfl
theorem sidx1 (a b c d e f : Int) (w : World) : (Instr.index 32 (.agg #[.int .i64 a, .int .i64 b, .int .i64 c, .int .i64 d, .int .i64 e, .int .i64 f]) (.int .i64 1)).run Try.prog w = .ok (.agg #[.int .i64 c, .int .i64 d]) w := by kernel_rfl
theorem sidx2 (a b c d e f : Int) (w : World) : (Instr.index 32 (.agg #[.int .i64 a, .int .i64 b, .int .i64 c, .int .i64 d, .int .i64 e, .int .i64 f]) (.int .i64 2)).run Try.prog w = .ok (.agg #[.int .i64 e, .int .i64 f]) w := by kernel_rfl
attribute [go_sem] sidx0 sidx1 sidx2
theorem put1 {w : World} {b : Nat} {t : TypeId} {p : Value} (x : Value) (h : w.heap[b]? = some (.cells #[p] t)) : (w.setCell ⟨b, 0, none⟩ x).cell? ⟨b, 0, none⟩ = some x := by
  have a := Joins.cell_of_block (Joins.block_setCell (i := 0) h x) 0
  simpa using a
set_option maxRecDepth 100000 in
set_option maxHeartbeats 4000000 in
theorem Check_c (b : Bt) (w : World) : Calls Try.prog 30 #[btV b] w fun e w' => e = .returned (.int .i64 (checkB b)) ∧ Below w.heap.size w w' := by
  obtain ⟨q0, q1, qs, qb⟩ := two_new' w (.cells (btC b) 34) (.cells #[.int .i64 0] 25)
  have hR := Lib.hid (rightB_eq b)
  unfold btC at q0 q1 qs qb
  have QS := Lib.hid qs
  have QB := Lib.hid qb
  clear qs qb
  unfold btV
  rcases Bool.eq_false_or_eq_true (inI b.n 1 50) with h | h
  · have hn : 1 ≤ b.n ∧ b.n ≤ 50 := by simpa [inI] using h
    obtain ⟨n1, n2⟩ := hn
    have H := Lib.hid h
    rcases Bool.eq_false_or_eq_true (upToB b.s b.n) with hu | hu
    · have HU := Lib.hid hu
      clear h hu
      (refine (callsIn_wide (n := 9)).1 (callsIn_of_wp_marks Try.func30 rfl trivial ?_ rfl); simp only [Try.ntmps30, List.size_toArray, List.length_cons, List.length_nil, Nat.reduceAdd, Nat.reduceSub, Array.replicate_succ, Array.replicate_zero, List.push_toArray, List.append_toArray, List.nil_append, List.cons_append])
      gi_wp2_with fail
      refine ⟨trivial, calls_any (r := none) ((within_c _ _ _ _).mono ?_)⟩
      rintro e w' ⟨rfl, rfl⟩
      rw [H.out]
      gi_wp2_with fail
      refine ⟨trivial, calls_any (r := none) ((upToP_c b.s b.n _ (by omega) n2).mono ?_)⟩
      rintro e w1 ⟨rfl, hb1⟩
      rw [HU.out]
      replace q0 := (hb1.block w.heap.size (by simp; omega)).trans q0
      replace q1 := (hb1.block (w.heap.size + 1) (by simp)).trans q1
      have QB1 := below_then QB.out hb1
      clear hb1
      have u0 := Joins.cell_of_block q0 0
      have u1 := Joins.cell_of_block q0 4
      have u2 := Joins.cell_of_block q0 5
      have u3 := Joins.cell_of_block q0 6
      have u4 := Joins.cell_of_block q0 7
      have u5 := Joins.cell_of_block q0 8
      have u6 := Joins.cell_of_block q0 9
      have zq := size_of_block q0
      gi_wp2_with fail
      gi_loopw [19] (fun i wr => ∃ j : Nat, j ≤ 3 ∧ i = .int .i64 j ∧ Hid (∀ k : Nat, k < j → okS (b.known k) b.n = true) ∧ Below w1.heap.size w1 wr) (fun i _ => 3 - (intOf i).toNat)
      case atStart => exact ⟨0, by omega, rfl, Lib.hid (fun k hk => by omega), Below.refl _ _⟩
      case round =>
        obtain ⟨j, hj, rfl, hall, hb⟩ := hrel
        have r0 := (hb.block _ (size_of_block q0)).trans q0
        have r1 := (hb.block _ (size_of_block q1)).trans q1
        have e0 := Joins.cell_of_block r0 0
        have hBr := below_then QB1 hb
        have zr := size_of_block r0
        have hj4 : j = 3 ∨ j = 0 ∨ j = 1 ∨ j = 2 := by omega
        rcases hj4 with rfl | rfl | rfl | rfl
        · have hright : rightB b = true := by
            have o0 := hall.out 0 (by omega)
            have o1 := hall.out 1 (by omega)
            have o2 := hall.out 2 (by omega)
            have p0 : okS b.k0 b.n = true := o0
            have p1 : okS b.k1 b.n = true := o1
            have p2 : okS b.k2 b.n = true := o2
            rw [hR.out, H.out, HU.out, p0, p1, p2]; rfl
          have HW := Lib.hid (wholesA_eq hright)
          have HRI := Lib.hid hright
          clear hright
          have e4 := Joins.cell_of_block r0 4
          have e5 := Joins.cell_of_block r0 5
          have e6 := Joins.cell_of_block r0 6
          have e7 := Joins.cell_of_block r0 7
          have e8 := Joins.cell_of_block r0 8
          have e9 := Joins.cell_of_block r0 9
          have e1 := Joins.cell_of_block r0 1
          have e2 := Joins.cell_of_block r0 2
          have e3 := Joins.cell_of_block r0 3
          gi_wp2_with fail
          refine ⟨trivial, calls_any (r := none) ((wholesP_c b _).mono ?_)⟩
          rintro e w4 ⟨rfl, rfl⟩
          have n4 := heap_alloc_new wr (.cells (btC b) 34)
          have a4 := below_alloc wr (.cells (btC b) 34)
          generalize wr.alloc (.cells (btC b) 34) = W4 at n4 a4 ⊢
          have z1 := (a4.block _ (size_of_block r1)).trans r1
          have B4 := below_then hBr a4
          have s4 := B4.size
          gi_wp2_with fail
          refine wpIn_over (wholes_g (U := wholesU) (fun _ h => h) (n₀ := W4.heap.size) (B := 0) (size_of_block n4) HRI.out (by omega) (Nat.le_refl _) n4) rfl (fun _ => rfl) (Nat.le_refl _)
            (fun pre W' => (pre = [] ∧ W'.heap[w.heap.size + 1]? = some (.cells #[.int .i64 0] 25)) ∧ Below w.heap.size w W')
            (fun c _ W' => (c = .ret ∧ wholesA b ≠ []) ∧ W'.heap[w.heap.size + 1]? = some (.cells #[.int .i64 0] 25) ∧ Below w.heap.size w W')
            (((ownFrom_pure _ _).and (own_cells _ _ _ fun _ => rfl)).and (ownFrom_below (Nat.le_refl _) (by omega)))
            (fun c => (ownFrom_pure _ (fun _ => c = .ret ∧ wholesA b ≠ [])).and ((own_cells _ _ (fun _ => .cells #[.int .i64 0] 25) fun _ => rfl).and (ownFrom_below (Nat.le_refl _) (by omega)))) ⟨⟨rfl, z1⟩, B4⟩
            (fun x a' _ => ∃ u4 u21 u22 u23 u24 u25 u26 u27 u28 u29 u30 u31 u32 u33 u34 u35 u36 u37 : Value, a' = { tmps := #[btV b, .pointer (some ⟨w.heap.size, 0, none⟩), .pointer (some ⟨w.heap.size + 1, 0, none⟩), undef, u4, .pointer (some ⟨w.heap.size, 0, none⟩), .int .i64 b.n, .bool true, .bool false, .bool false, .pointer (some ⟨w.heap.size, 1, none⟩), k3V b.s, .pointer (some ⟨w.heap.size, 0, none⟩), .int .i64 b.n, .bool true, .bool false, .bool false, .pointer (some ⟨w.heap.size, 4, none⟩), .agg #[.int .i64 b.k0.lo, .int .i64 b.k0.hi, .int .i64 b.k1.lo, .int .i64 b.k1.hi, .int .i64 b.k2.lo, .int .i64 b.k2.hi], .int .i64 3, .bool false, u21, u22, u23, u24, u25, u26, u27, u28, u29, u30, u31, u32, u33, u34, u35, u36, u37, btV b, .func (.func 136) #[] #[.pointer (some ⟨wr.heap.size, 0, none⟩)], k3V x], defers := [] })
            (fun _ _ _ _ _ _ hs _ _ => hs) ?assign ?body ?done ?stop
          case assign =>
            intro l pre x W' K hl hi hp hK
            unfold encK
            gi_wp2
            exact hK _ _ (KeepsFrom.refl _ _) (Kp.refl _ _ _ _) hi ⟨_, _, _, _, _, _, _, _, _, _, _, _, _, _, _, _, _, _, rfl⟩
          case done =>
            rintro D W' hD ⟨⟨hnil, m1⟩, hBw⟩ hK
            have hck : checkB b = 9 := by unfold checkB; rw [HRI.out, if_neg (by simp), if_pos (by rw [← HW.out]; exact hnil)]
            have HC := Lib.hid hck
            have hDz := size_of_block hK
            have f1 := Joins.unfrozen_of_block m1 0
            have g1 := Joins.cell_of_block m1 0
            have zm := size_of_block m1
            have hz1 := size_of_block z1
            have hne : D ≠ w.heap.size + 1 := by omega
            have m9 := (World.putObj_heap_other (w := W'.setCell ⟨w.heap.size + 1, 0, none⟩ (.int .i64 9)) (o := .deferred none) (show w.heap.size + 1 ≠ D by omega)).trans (Joins.block_setCell (i := 0) m1 (.int .i64 9))
            have HP := Lib.hid (Joins.cell_of_block m9 0)
            have HB := Lib.hid hBw
            have hK' : (W'.setCell ⟨w.heap.size + 1, 0, none⟩ (.int .i64 9)).heap[D]? = some (.deferred (some [])) := (KeepsOthers.setCell _ _ _).same D _ hK rfl
            clear hck hnil
            gi_wp2_with fail
            refine ⟨by simp, .inl ⟨_, _, rfl, run_takeDeferred hK', ?_⟩⟩
            refine ⟨.int .i64 9, ?_, ret_int HC.out.symm, (HB.out.setCell (by simp) _).trans (belowK_b (w := w) (Nat.le_refl _) _ D _ _ (by omega) hK' rfl rfl)⟩
            simp [results, Try.results30, go_sem, HP.out]
          case stop =>
            rintro D c pre W' hD hp ⟨⟨rfl, hne⟩, m1, hBw⟩ hK
            have hck : checkB b = 0 := by unfold checkB; rw [HRI.out, if_neg (by simp), if_neg (by rw [← HW.out]; exact hne)]
            have hz1 := size_of_block z1
            have m9 := (World.putObj_heap_other (w := W') (o := .deferred none) (show w.heap.size + 1 ≠ D by omega)).trans m1
            have HP := Lib.hid (Joins.cell_of_block m9 0)
            gi_wp2_with fail
            refine ⟨by simp, .inl ⟨_, _, rfl, run_takeDeferred hK, ?_⟩⟩
            refine ⟨.int .i64 0, ?_, ret_int hck.symm, hBw.trans (belowK_b (w := w) (Nat.le_refl _) _ D _ _ (by omega) hK rfl rfl)⟩
            simp [results, Try.results30, go_sem, HP.out]
          case body =>
            rintro l pre x a' W' hl hrc ⟨⟨hnil, m1⟩, hBw⟩ ⟨u4, u21, u22, u23, u24, u25, u26, u27, u28, u29, u30, u31, u32, u33, u34, u35, u36, u37, rfl⟩ hp
            have f1 := Joins.unfrozen_of_block m1 0
            have g1 := Joins.cell_of_block m1 0
            have zm := size_of_block m1
            have hne : wholesA b ≠ [] := fun h => by rw [h] at hp; have := hp.length_le; simp at this
            have m2 := Joins.block_setCell (i := 0) m1 (.int .i64 0)
            have HB := Lib.hid (hBw.setCell (p := ⟨w.heap.size + 1, 0, none⟩) (by simp) (.int .i64 0))
            gi_wp2_with fail
            exact ⟨(KeepsOthers.setCell _ _ _).from _, ⟨rfl, hne⟩, m2, HB.out⟩
        · by_cases a1 : b.k0.lo ≤ b.k0.hi
          · by_cases a2 : b.k0.lo < 0
            · skip
              have hkf : okS b.k0 b.n = false := by simp only [okS, Bool.and_eq_false_iff, decide_eq_false_iff_not]; omega
              have hc := Lib.hid (check_wrong (b := b) (by rw [rightB_eq, hkf]; simp))
              clear hkf
              have d1 : decide (b.k0.lo ≤ b.k0.hi) = true := decide_eq_true a1
              have d2 : decide (b.k0.lo < 0) = true := decide_eq_true a2
              gi_wp2_with fail
              refine ⟨trivial, calls_any (r := none) ((spanP_c b.k0 _).mono ?_)⟩
              rintro e w2 ⟨rfl, hb2⟩
              have nS := (hb2.block _ (size_of_block (heap_alloc_new wr (.cells #[.int .i64 b.k0.lo, .int .i64 b.k0.hi] 31)))).trans (heap_alloc_new wr (.cells #[.int .i64 b.k0.lo, .int .i64 b.k0.hi] 31))
              have B2 := below_then (below_alloc wr (.cells #[.int .i64 b.k0.lo, .int .i64 b.k0.hi] 31)) hb2
              have s0 := Joins.cell_of_block nS 0
              have s1 := Joins.cell_of_block nS 1
              have zs := size_of_block nS
              have t0 := (B2.block _ zr).trans r0
              have t1 := (B2.block _ (size_of_block r1)).trans r1
              have g0 := Joins.cell_of_block t0 0
              have zt := size_of_block t0
              rw [d1]
              clear hb2 nS t0
              have f0 := Joins.unfrozen_of_block t1 0
              have k0 := Joins.cell_of_block t1 0
              have hz := size_of_block t1
              have HP := Lib.hid (put1 (.int .i64 1) t1)
              have HB := Lib.hid (below_then hBr B2)
              gi_wp2_with fail
              refine ⟨.int .i64 1, ?_, ret_int hc.out.symm, HB.out.setCell (by simp) _⟩
              simp [results, Try.results30, go_sem, HP.out]
            · by_cases a3 : b.n < b.k0.hi
              · skip
                have hkf : okS b.k0 b.n = false := by simp only [okS, Bool.and_eq_false_iff, decide_eq_false_iff_not]; omega
                have hc := Lib.hid (check_wrong (b := b) (by rw [rightB_eq, hkf]; simp))
                clear hkf
                have d1 : decide (b.k0.lo ≤ b.k0.hi) = true := decide_eq_true a1
                have d2 : decide (b.k0.lo < 0) = false := decide_eq_false a2
                have d3 : decide (b.n < b.k0.hi) = true := decide_eq_true a3
                gi_wp2_with fail
                refine ⟨trivial, calls_any (r := none) ((spanP_c b.k0 _).mono ?_)⟩
                rintro e w2 ⟨rfl, hb2⟩
                have nS := (hb2.block _ (size_of_block (heap_alloc_new wr (.cells #[.int .i64 b.k0.lo, .int .i64 b.k0.hi] 31)))).trans (heap_alloc_new wr (.cells #[.int .i64 b.k0.lo, .int .i64 b.k0.hi] 31))
                have B2 := below_then (below_alloc wr (.cells #[.int .i64 b.k0.lo, .int .i64 b.k0.hi] 31)) hb2
                have s0 := Joins.cell_of_block nS 0
                have s1 := Joins.cell_of_block nS 1
                have zs := size_of_block nS
                have t0 := (B2.block _ zr).trans r0
                have t1 := (B2.block _ (size_of_block r1)).trans r1
                have g0 := Joins.cell_of_block t0 0
                have zt := size_of_block t0
                rw [d1]
                clear hb2 nS t0
                have f0 := Joins.unfrozen_of_block t1 0
                have k0 := Joins.cell_of_block t1 0
                have hz := size_of_block t1
                have HP := Lib.hid (put1 (.int .i64 1) t1)
                have HB := Lib.hid (below_then hBr B2)
                gi_wp2_with fail
                refine ⟨.int .i64 1, ?_, ret_int hc.out.symm, HB.out.setCell (by simp) _⟩
                simp [results, Try.results30, go_sem, HP.out]
              · skip
                have hkg : okS (b.known ((0 : Nat) : Int)) b.n = true := by show okS b.k0 b.n = true; simp only [okS, Bool.and_eq_true, decide_eq_true_eq]; omega
                have HKG := Lib.hid hkg
                clear hkg
                have d1 : decide (b.k0.lo ≤ b.k0.hi) = true := decide_eq_true a1
                have d2 : decide (b.k0.lo < 0) = false := decide_eq_false a2
                have d3 : decide (b.n < b.k0.hi) = false := decide_eq_false a3
                gi_wp2_with fail
                refine ⟨trivial, calls_any (r := none) ((spanP_c b.k0 _).mono ?_)⟩
                rintro e w2 ⟨rfl, hb2⟩
                have nS := (hb2.block _ (size_of_block (heap_alloc_new wr (.cells #[.int .i64 b.k0.lo, .int .i64 b.k0.hi] 31)))).trans (heap_alloc_new wr (.cells #[.int .i64 b.k0.lo, .int .i64 b.k0.hi] 31))
                have B2 := below_then (below_alloc wr (.cells #[.int .i64 b.k0.lo, .int .i64 b.k0.hi] 31)) hb2
                have s0 := Joins.cell_of_block nS 0
                have s1 := Joins.cell_of_block nS 1
                have zs := size_of_block nS
                have t0 := (B2.block _ zr).trans r0
                have t1 := (B2.block _ (size_of_block r1)).trans r1
                have g0 := Joins.cell_of_block t0 0
                have zt := size_of_block t0
                rw [d1]
                clear hb2 nS t0
                gi_wp2_with fail
                go_roundw
                case rel => exact ⟨1, by omega, by first | rfl | go_num, Lib.hid (fun k hk => by
                  rcases Nat.lt_or_ge k 0 with h | h
                  · exact hall.out k h
                  · obtain rfl : k = 0 := by omega
                    exact HKG.out), below_then hb B2⟩
                case measure => simp [intOf]
          · skip
            have hkf : okS b.k0 b.n = false := by simp only [okS, Bool.and_eq_false_iff, decide_eq_false_iff_not]; omega
            have hc := Lib.hid (check_wrong (b := b) (by rw [rightB_eq, hkf]; simp))
            clear hkf
            have d1 : decide (b.k0.lo ≤ b.k0.hi) = false := decide_eq_false a1
            gi_wp2_with fail
            refine ⟨trivial, calls_any (r := none) ((spanP_c b.k0 _).mono ?_)⟩
            rintro e w2 ⟨rfl, hb2⟩
            have nS := (hb2.block _ (size_of_block (heap_alloc_new wr (.cells #[.int .i64 b.k0.lo, .int .i64 b.k0.hi] 31)))).trans (heap_alloc_new wr (.cells #[.int .i64 b.k0.lo, .int .i64 b.k0.hi] 31))
            have B2 := below_then (below_alloc wr (.cells #[.int .i64 b.k0.lo, .int .i64 b.k0.hi] 31)) hb2
            have s0 := Joins.cell_of_block nS 0
            have s1 := Joins.cell_of_block nS 1
            have zs := size_of_block nS
            have t0 := (B2.block _ zr).trans r0
            have t1 := (B2.block _ (size_of_block r1)).trans r1
            have g0 := Joins.cell_of_block t0 0
            have zt := size_of_block t0
            rw [d1]
            clear hb2 nS t0
            have f0 := Joins.unfrozen_of_block t1 0
            have k0 := Joins.cell_of_block t1 0
            have hz := size_of_block t1
            have HP := Lib.hid (put1 (.int .i64 1) t1)
            have HB := Lib.hid (below_then hBr B2)
            gi_wp2_with fail
            refine ⟨.int .i64 1, ?_, ret_int hc.out.symm, HB.out.setCell (by simp) _⟩
            simp [results, Try.results30, go_sem, HP.out]
        · by_cases a1 : b.k1.lo ≤ b.k1.hi
          · by_cases a2 : b.k1.lo < 0
            · skip
              have hkf : okS b.k1 b.n = false := by simp only [okS, Bool.and_eq_false_iff, decide_eq_false_iff_not]; omega
              have hc := Lib.hid (check_wrong (b := b) (by rw [rightB_eq, hkf]; simp))
              clear hkf
              have d1 : decide (b.k1.lo ≤ b.k1.hi) = true := decide_eq_true a1
              have d2 : decide (b.k1.lo < 0) = true := decide_eq_true a2
              gi_wp2_with fail
              refine ⟨trivial, calls_any (r := none) ((spanP_c b.k1 _).mono ?_)⟩
              rintro e w2 ⟨rfl, hb2⟩
              have nS := (hb2.block _ (size_of_block (heap_alloc_new wr (.cells #[.int .i64 b.k1.lo, .int .i64 b.k1.hi] 31)))).trans (heap_alloc_new wr (.cells #[.int .i64 b.k1.lo, .int .i64 b.k1.hi] 31))
              have B2 := below_then (below_alloc wr (.cells #[.int .i64 b.k1.lo, .int .i64 b.k1.hi] 31)) hb2
              have s0 := Joins.cell_of_block nS 0
              have s1 := Joins.cell_of_block nS 1
              have zs := size_of_block nS
              have t0 := (B2.block _ zr).trans r0
              have t1 := (B2.block _ (size_of_block r1)).trans r1
              have g0 := Joins.cell_of_block t0 0
              have zt := size_of_block t0
              rw [d1]
              clear hb2 nS t0
              have f0 := Joins.unfrozen_of_block t1 0
              have k0 := Joins.cell_of_block t1 0
              have hz := size_of_block t1
              have HP := Lib.hid (put1 (.int .i64 1) t1)
              have HB := Lib.hid (below_then hBr B2)
              gi_wp2_with fail
              refine ⟨.int .i64 1, ?_, ret_int hc.out.symm, HB.out.setCell (by simp) _⟩
              simp [results, Try.results30, go_sem, HP.out]
            · by_cases a3 : b.n < b.k1.hi
              · skip
                have hkf : okS b.k1 b.n = false := by simp only [okS, Bool.and_eq_false_iff, decide_eq_false_iff_not]; omega
                have hc := Lib.hid (check_wrong (b := b) (by rw [rightB_eq, hkf]; simp))
                clear hkf
                have d1 : decide (b.k1.lo ≤ b.k1.hi) = true := decide_eq_true a1
                have d2 : decide (b.k1.lo < 0) = false := decide_eq_false a2
                have d3 : decide (b.n < b.k1.hi) = true := decide_eq_true a3
                gi_wp2_with fail
                refine ⟨trivial, calls_any (r := none) ((spanP_c b.k1 _).mono ?_)⟩
                rintro e w2 ⟨rfl, hb2⟩
                have nS := (hb2.block _ (size_of_block (heap_alloc_new wr (.cells #[.int .i64 b.k1.lo, .int .i64 b.k1.hi] 31)))).trans (heap_alloc_new wr (.cells #[.int .i64 b.k1.lo, .int .i64 b.k1.hi] 31))
                have B2 := below_then (below_alloc wr (.cells #[.int .i64 b.k1.lo, .int .i64 b.k1.hi] 31)) hb2
                have s0 := Joins.cell_of_block nS 0
                have s1 := Joins.cell_of_block nS 1
                have zs := size_of_block nS
                have t0 := (B2.block _ zr).trans r0
                have t1 := (B2.block _ (size_of_block r1)).trans r1
                have g0 := Joins.cell_of_block t0 0
                have zt := size_of_block t0
                rw [d1]
                clear hb2 nS t0
                have f0 := Joins.unfrozen_of_block t1 0
                have k0 := Joins.cell_of_block t1 0
                have hz := size_of_block t1
                have HP := Lib.hid (put1 (.int .i64 1) t1)
                have HB := Lib.hid (below_then hBr B2)
                gi_wp2_with fail
                refine ⟨.int .i64 1, ?_, ret_int hc.out.symm, HB.out.setCell (by simp) _⟩
                simp [results, Try.results30, go_sem, HP.out]
              · skip
                have hkg : okS (b.known ((1 : Nat) : Int)) b.n = true := by show okS b.k1 b.n = true; simp only [okS, Bool.and_eq_true, decide_eq_true_eq]; omega
                have HKG := Lib.hid hkg
                clear hkg
                have d1 : decide (b.k1.lo ≤ b.k1.hi) = true := decide_eq_true a1
                have d2 : decide (b.k1.lo < 0) = false := decide_eq_false a2
                have d3 : decide (b.n < b.k1.hi) = false := decide_eq_false a3
                gi_wp2_with fail
                refine ⟨trivial, calls_any (r := none) ((spanP_c b.k1 _).mono ?_)⟩
                rintro e w2 ⟨rfl, hb2⟩
                have nS := (hb2.block _ (size_of_block (heap_alloc_new wr (.cells #[.int .i64 b.k1.lo, .int .i64 b.k1.hi] 31)))).trans (heap_alloc_new wr (.cells #[.int .i64 b.k1.lo, .int .i64 b.k1.hi] 31))
                have B2 := below_then (below_alloc wr (.cells #[.int .i64 b.k1.lo, .int .i64 b.k1.hi] 31)) hb2
                have s0 := Joins.cell_of_block nS 0
                have s1 := Joins.cell_of_block nS 1
                have zs := size_of_block nS
                have t0 := (B2.block _ zr).trans r0
                have t1 := (B2.block _ (size_of_block r1)).trans r1
                have g0 := Joins.cell_of_block t0 0
                have zt := size_of_block t0
                rw [d1]
                clear hb2 nS t0
                gi_wp2_with fail
                go_roundw
                case rel => exact ⟨2, by omega, by first | rfl | go_num, Lib.hid (fun k hk => by
                  rcases Nat.lt_or_ge k 1 with h | h
                  · exact hall.out k h
                  · obtain rfl : k = 1 := by omega
                    exact HKG.out), below_then hb B2⟩
                case measure => simp [intOf]
          · skip
            have hkf : okS b.k1 b.n = false := by simp only [okS, Bool.and_eq_false_iff, decide_eq_false_iff_not]; omega
            have hc := Lib.hid (check_wrong (b := b) (by rw [rightB_eq, hkf]; simp))
            clear hkf
            have d1 : decide (b.k1.lo ≤ b.k1.hi) = false := decide_eq_false a1
            gi_wp2_with fail
            refine ⟨trivial, calls_any (r := none) ((spanP_c b.k1 _).mono ?_)⟩
            rintro e w2 ⟨rfl, hb2⟩
            have nS := (hb2.block _ (size_of_block (heap_alloc_new wr (.cells #[.int .i64 b.k1.lo, .int .i64 b.k1.hi] 31)))).trans (heap_alloc_new wr (.cells #[.int .i64 b.k1.lo, .int .i64 b.k1.hi] 31))
            have B2 := below_then (below_alloc wr (.cells #[.int .i64 b.k1.lo, .int .i64 b.k1.hi] 31)) hb2
            have s0 := Joins.cell_of_block nS 0
            have s1 := Joins.cell_of_block nS 1
            have zs := size_of_block nS
            have t0 := (B2.block _ zr).trans r0
            have t1 := (B2.block _ (size_of_block r1)).trans r1
            have g0 := Joins.cell_of_block t0 0
            have zt := size_of_block t0
            rw [d1]
            clear hb2 nS t0
            have f0 := Joins.unfrozen_of_block t1 0
            have k0 := Joins.cell_of_block t1 0
            have hz := size_of_block t1
            have HP := Lib.hid (put1 (.int .i64 1) t1)
            have HB := Lib.hid (below_then hBr B2)
            gi_wp2_with fail
            refine ⟨.int .i64 1, ?_, ret_int hc.out.symm, HB.out.setCell (by simp) _⟩
            simp [results, Try.results30, go_sem, HP.out]
        · by_cases a1 : b.k2.lo ≤ b.k2.hi
          · by_cases a2 : b.k2.lo < 0
            · skip
              have hkf : okS b.k2 b.n = false := by simp only [okS, Bool.and_eq_false_iff, decide_eq_false_iff_not]; omega
              have hc := Lib.hid (check_wrong (b := b) (by rw [rightB_eq, hkf]; simp))
              clear hkf
              have d1 : decide (b.k2.lo ≤ b.k2.hi) = true := decide_eq_true a1
              have d2 : decide (b.k2.lo < 0) = true := decide_eq_true a2
              gi_wp2_with fail
              refine ⟨trivial, calls_any (r := none) ((spanP_c b.k2 _).mono ?_)⟩
              rintro e w2 ⟨rfl, hb2⟩
              have nS := (hb2.block _ (size_of_block (heap_alloc_new wr (.cells #[.int .i64 b.k2.lo, .int .i64 b.k2.hi] 31)))).trans (heap_alloc_new wr (.cells #[.int .i64 b.k2.lo, .int .i64 b.k2.hi] 31))
              have B2 := below_then (below_alloc wr (.cells #[.int .i64 b.k2.lo, .int .i64 b.k2.hi] 31)) hb2
              have s0 := Joins.cell_of_block nS 0
              have s1 := Joins.cell_of_block nS 1
              have zs := size_of_block nS
              have t0 := (B2.block _ zr).trans r0
              have t1 := (B2.block _ (size_of_block r1)).trans r1
              have g0 := Joins.cell_of_block t0 0
              have zt := size_of_block t0
              rw [d1]
              clear hb2 nS t0
              have f0 := Joins.unfrozen_of_block t1 0
              have k0 := Joins.cell_of_block t1 0
              have hz := size_of_block t1
              have HP := Lib.hid (put1 (.int .i64 1) t1)
              have HB := Lib.hid (below_then hBr B2)
              gi_wp2_with fail
              refine ⟨.int .i64 1, ?_, ret_int hc.out.symm, HB.out.setCell (by simp) _⟩
              simp [results, Try.results30, go_sem, HP.out]
            · by_cases a3 : b.n < b.k2.hi
              · skip
                have hkf : okS b.k2 b.n = false := by simp only [okS, Bool.and_eq_false_iff, decide_eq_false_iff_not]; omega
                have hc := Lib.hid (check_wrong (b := b) (by rw [rightB_eq, hkf]; simp))
                clear hkf
                have d1 : decide (b.k2.lo ≤ b.k2.hi) = true := decide_eq_true a1
                have d2 : decide (b.k2.lo < 0) = false := decide_eq_false a2
                have d3 : decide (b.n < b.k2.hi) = true := decide_eq_true a3
                gi_wp2_with fail
                refine ⟨trivial, calls_any (r := none) ((spanP_c b.k2 _).mono ?_)⟩
                rintro e w2 ⟨rfl, hb2⟩
                have nS := (hb2.block _ (size_of_block (heap_alloc_new wr (.cells #[.int .i64 b.k2.lo, .int .i64 b.k2.hi] 31)))).trans (heap_alloc_new wr (.cells #[.int .i64 b.k2.lo, .int .i64 b.k2.hi] 31))
                have B2 := below_then (below_alloc wr (.cells #[.int .i64 b.k2.lo, .int .i64 b.k2.hi] 31)) hb2
                have s0 := Joins.cell_of_block nS 0
                have s1 := Joins.cell_of_block nS 1
                have zs := size_of_block nS
                have t0 := (B2.block _ zr).trans r0
                have t1 := (B2.block _ (size_of_block r1)).trans r1
                have g0 := Joins.cell_of_block t0 0
                have zt := size_of_block t0
                rw [d1]
                clear hb2 nS t0
                have f0 := Joins.unfrozen_of_block t1 0
                have k0 := Joins.cell_of_block t1 0
                have hz := size_of_block t1
                have HP := Lib.hid (put1 (.int .i64 1) t1)
                have HB := Lib.hid (below_then hBr B2)
                gi_wp2_with fail
                refine ⟨.int .i64 1, ?_, ret_int hc.out.symm, HB.out.setCell (by simp) _⟩
                simp [results, Try.results30, go_sem, HP.out]
              · skip
                have hkg : okS (b.known ((2 : Nat) : Int)) b.n = true := by show okS b.k2 b.n = true; simp only [okS, Bool.and_eq_true, decide_eq_true_eq]; omega
                have HKG := Lib.hid hkg
                clear hkg
                have d1 : decide (b.k2.lo ≤ b.k2.hi) = true := decide_eq_true a1
                have d2 : decide (b.k2.lo < 0) = false := decide_eq_false a2
                have d3 : decide (b.n < b.k2.hi) = false := decide_eq_false a3
                gi_wp2_with fail
                refine ⟨trivial, calls_any (r := none) ((spanP_c b.k2 _).mono ?_)⟩
                rintro e w2 ⟨rfl, hb2⟩
                have nS := (hb2.block _ (size_of_block (heap_alloc_new wr (.cells #[.int .i64 b.k2.lo, .int .i64 b.k2.hi] 31)))).trans (heap_alloc_new wr (.cells #[.int .i64 b.k2.lo, .int .i64 b.k2.hi] 31))
                have B2 := below_then (below_alloc wr (.cells #[.int .i64 b.k2.lo, .int .i64 b.k2.hi] 31)) hb2
                have s0 := Joins.cell_of_block nS 0
                have s1 := Joins.cell_of_block nS 1
                have zs := size_of_block nS
                have t0 := (B2.block _ zr).trans r0
                have t1 := (B2.block _ (size_of_block r1)).trans r1
                have g0 := Joins.cell_of_block t0 0
                have zt := size_of_block t0
                rw [d1]
                clear hb2 nS t0
                gi_wp2_with fail
                go_roundw
                case rel => exact ⟨3, by omega, by first | rfl | go_num, Lib.hid (fun k hk => by
                  rcases Nat.lt_or_ge k 2 with h | h
                  · exact hall.out k h
                  · obtain rfl : k = 2 := by omega
                    exact HKG.out), below_then hb B2⟩
                case measure => simp [intOf]
          · skip
            have hkf : okS b.k2 b.n = false := by simp only [okS, Bool.and_eq_false_iff, decide_eq_false_iff_not]; omega
            have hc := Lib.hid (check_wrong (b := b) (by rw [rightB_eq, hkf]; simp))
            clear hkf
            have d1 : decide (b.k2.lo ≤ b.k2.hi) = false := decide_eq_false a1
            gi_wp2_with fail
            refine ⟨trivial, calls_any (r := none) ((spanP_c b.k2 _).mono ?_)⟩
            rintro e w2 ⟨rfl, hb2⟩
            have nS := (hb2.block _ (size_of_block (heap_alloc_new wr (.cells #[.int .i64 b.k2.lo, .int .i64 b.k2.hi] 31)))).trans (heap_alloc_new wr (.cells #[.int .i64 b.k2.lo, .int .i64 b.k2.hi] 31))
            have B2 := below_then (below_alloc wr (.cells #[.int .i64 b.k2.lo, .int .i64 b.k2.hi] 31)) hb2
            have s0 := Joins.cell_of_block nS 0
            have s1 := Joins.cell_of_block nS 1
            have zs := size_of_block nS
            have t0 := (B2.block _ zr).trans r0
            have t1 := (B2.block _ (size_of_block r1)).trans r1
            have g0 := Joins.cell_of_block t0 0
            have zt := size_of_block t0
            rw [d1]
            clear hb2 nS t0
            have f0 := Joins.unfrozen_of_block t1 0
            have k0 := Joins.cell_of_block t1 0
            have hz := size_of_block t1
            have HP := Lib.hid (put1 (.int .i64 1) t1)
            have HB := Lib.hid (below_then hBr B2)
            gi_wp2_with fail
            refine ⟨.int .i64 1, ?_, ret_int hc.out.symm, HB.out.setCell (by simp) _⟩
            simp [results, Try.results30, go_sem, HP.out]
    · have hc := Lib.hid (check_wrong (by rw [hR.out, h, hu]; simp))
      have HU := Lib.hid hu
      clear h hu
      (refine (callsIn_wide (n := 9)).1 (callsIn_of_wp_marks Try.func30 rfl trivial ?_ rfl); simp only [Try.ntmps30, List.size_toArray, List.length_cons, List.length_nil, Nat.reduceAdd, Nat.reduceSub, Array.replicate_succ, Array.replicate_zero, List.push_toArray, List.append_toArray, List.nil_append, List.cons_append])
      gi_wp2_with fail
      refine ⟨trivial, calls_any (r := none) ((within_c _ _ _ _).mono ?_)⟩
      rintro e w' ⟨rfl, rfl⟩
      rw [H.out]
      gi_wp2_with fail
      refine ⟨trivial, calls_any (r := none) ((upToP_c b.s b.n _ (by omega) n2).mono ?_)⟩
      rintro e w1 ⟨rfl, hb1⟩
      rw [HU.out]
      replace q0 := (hb1.block w.heap.size (by simp; omega)).trans q0
      replace q1 := (hb1.block (w.heap.size + 1) (by simp)).trans q1
      have QB1 := below_then QB.out hb1
      clear hb1
      have f0 := Joins.unfrozen_of_block q1 0
      have k0 := Joins.cell_of_block q1 0
      have hz := size_of_block q1
      have HP := Lib.hid (put1 (.int .i64 1) q1)
      have HB := Lib.hid QB1
      gi_wp2_with fail
      refine ⟨.int .i64 1, ?_, ret_int hc.out.symm, HB.out.setCell (by simp) _⟩
      simp [results, Try.results30, go_sem, HP.out]
  · have hc := Lib.hid (check_wrong (by rw [hR.out, h]; simp))
    have H := Lib.hid h
    clear h q0 q1
    (refine (callsIn_wide (n := 9)).1 (callsIn_of_wp_marks Try.func30 rfl trivial ?_ rfl); simp only [Try.ntmps30, List.size_toArray, List.length_cons, List.length_nil, Nat.reduceAdd, Nat.reduceSub, Array.replicate_succ, Array.replicate_zero, List.push_toArray, List.append_toArray, List.nil_append, List.cons_append])
    gi_wp2_with fail
    refine ⟨trivial, calls_any (r := none) ((within_c _ _ _ _).mono ?_)⟩
    rintro e w' ⟨rfl, rfl⟩
    rw [H.out]
    gi_wp2_with fail
    refine ⟨trivial, ?_⟩
    gi_wp2_with fail
    refine ⟨.int .i64 1, ?_, ret_int hc.out.symm, below_then (below_alloc _ _) (below_alloc _ _)⟩
    simp [results, Try.results30, go_sem]
end Go.Proofs.Ytaaeipjnhjgjdaa
