/- Texts joined: 3ProgX 3ProgY 3ProgZ. -/
import Derived.Test.YtaaeipjnhjgjdaaJ26
import Derived.Test.YtaaeipjnhjgjdaaJ27
import Derived.Test.YtaaeipjnhjgjdaaJ20
import Derived.Great.BuildSlice
import Derived.Laws.CopyOwn
/- The shortest span of a sort, by package sample. -/
namespace Go.Proofs.Ytaaeipjnhjgjdaa
open Go Go.RowKit Go.Shelf

attribute [local go_sem] Rel RelAt RelUpon
theorem rts1 {w : World} {B : Nat} {r : Rt} {t : TypeId} (h : w.heap[B]? = some (.cells #[.int .i64 r.num, .int .i64 r.den] t)) : Rts w w.heap.size (.slice (some ⟨B, 0, none⟩) 1 1) [r] := by
  refine ⟨_, _, rfl, by simp, by simp, fun _ => ⟨B, 0, rfl, size_of_block h, fun i y hi j u hu => ?_⟩⟩
  match i, hi with
  | 0, hi =>
    obtain rfl : r = y := by simpa using hi
    match j, hu with
    | 0, hu => obtain rfl := (by simpa [rtC] using hu : Value.int .i64 r.num = u); exact Joins.cell_of_block h 0
    | 1, hu => obtain rfl := (by simpa [rtC] using hu : Value.int .i64 r.den = u); exact Joins.cell_of_block h 1
set_option maxRecDepth 100000 in
set_option maxHeartbeats 8000000 in
theorem Shortest_c (b : Bt) (s : Int) (r : Rt) (w : World) : Calls Try.prog 60 #[btV b, .int .i64 s, rtV r] w fun e w' => e = .returned (.tuple #[spV (shortestR b s r).1, .int .i64 (shortestR b s r).2]) ∧ Below w.heap.size w w' := by
  obtain ⟨q0, q1, q2, qs, qb⟩ := three_new w (.cells (btC b) 34) (.cells #[.int .i64 r.num, .int .i64 r.den] 53) (.cells #[.int .i64 0, .int .i64 0] 31)
  unfold btC at q0 q1 q2 qs qb
  unfold btV
  have HS := Lib.hid (show ∃ x, levelsI [r] = x ∧ (believeE b s [x] = 0 → shortestR b s r = (shortS b s r, 0) ∧ checkB b = 0 ∧ levelB r = true) ∧ (believeE b s [x] ≠ 0 → shortestR b s r = (⟨0, 0⟩, believeE b s [x])) from by
    have ha : believeE b s [levelsI [r]] = askI b s r := by
      rw [bel_one]; unfold askI levelsI
      by_cases hk : kindI b s ≠ 0
      · rw [if_pos hk, if_pos hk]
      · rw [if_neg hk, if_neg hk]; simp
    refine ⟨_, rfl, ?_, ?_⟩ <;> rw [ha] <;> intro h
    · refine ⟨?_, ?_⟩
      · unfold shortestR shortS; rw [if_pos h]; cases shortestP b s r <;> rfl
      · unfold askI at h
        by_cases hk : kindI b s ≠ 0
        · rw [if_pos hk] at h; exact absurd h hk
        · rw [if_neg hk] at h
          refine ⟨(kind_ok (Decidable.not_not.1 hk)).1, ?_⟩
          cases hl : levelB r with
          | true => rfl
          | false => rw [hl] at h; exact absurd h (by decide)
    · exact shortest_err h)
  obtain ⟨x, hx, hA, hB⟩ := HS.out
  have HA := Lib.hid hA
  have HB := Lib.hid hB
  have CL := checkLevels_c [r]
  rw [hx] at CL
  unfold rtV
  clear hx hA hB HS
  by_cases h : believeE b s [x] = 0
  · have hE := Lib.hid h
    obtain ⟨hR, hk, hl⟩ := HA.out h
    have HL := Lib.hid hl
    clear HA HB h hl
    go_enter Try.func60, Try.ntmps60
    go_wp2_with fail
    have QS := Lib.hid qs
    clear qs
    generalize ((w.alloc _).alloc _).alloc _ = W1 at q0 q1 q2 QS qb ⊢
    refine wp_region_planP 10 [.f [0, 1, 2], .s 3, .s 4, .s 5, .s 6] [7, 8, 9] [11, 12] (by kernel_rfl) (by kernel_rfl) (by intro c a d v w h; cases d <;> exact h) fun W2 hb2 => ?_
    have B2 := below_then qb hb2
    replace q0 := (hb2.block _ (size_of_block q0)).trans q0
    replace q1 := (hb2.block _ (size_of_block q1)).trans q1
    replace q2 := (hb2.block _ (size_of_block q2)).trans q2
    clear qb hb2
    have g0 := Joins.cell_of_block q0 0
    have g1 := Joins.cell_of_block q0 1
    have g2 := Joins.cell_of_block q0 2
    have g3 := Joins.cell_of_block q0 3
    have g4 := Joins.cell_of_block q0 4
    have g5 := Joins.cell_of_block q0 5
    have g6 := Joins.cell_of_block q0 6
    have g7 := Joins.cell_of_block q0 7
    have g8 := Joins.cell_of_block q0 8
    have g9 := Joins.cell_of_block q0 9
    have s0 := Joins.cell_of_block q1 0
    have s1 := Joins.cell_of_block q1 1
    have z0 := size_of_block q0
    have z1 := size_of_block q1
    have z2 := size_of_block q2
    have hcg : ∀ (g : Gr W2) b o, b < W2.heap.size → g.val.cell? ⟨b, o, none⟩ = W2.cell? ⟨b, o, none⟩ := fun g b o h => (bcell g.b).1 b o h
    simp only [pick, List.filterMap_cons, List.filterMap_nil, List.getElem?_toArray, List.getElem?_cons_succ, List.getElem?_cons_zero, wpPlanAG, wpPlan, wpPure]
    refine wpRel_step (fun K hK => ?_); go_simp; refine hK _ ?_; clear hK K
    refine wpRel_step (fun K hK => ?_); go_simp; refine hK _ ?_; clear hK K
    refine wpRel_step (fun K hK => ?_); go_simp; refine hK _ ?_; clear hK K
    refine wpRel_nil fun W3 hb3 => ?_
    clear g0 g1 g2 g3 g4 g5 g6 g7 g8 g9 s0 s1 hcg
    have G3 := hb3
    clear hb3
    refine ⟨⟨_, rfl, rfl, ?_⟩, ⟨_, rfl, rfl, ?_⟩⟩
    · go_simp
      have nT := heap_alloc_new W3 (.cells #[.int .i64 r.num, .int .i64 r.den] 53)
      have aT := below_alloc W3 (.cells #[.int .i64 r.num, .int .i64 r.den] 53)
      refine ⟨aT, fun W4 hu => ?_⟩
      replace nT := (hu.block _ (size_of_block nT)).trans nT
      have G4 := below_then G3 (below_then aT hu)
      clear hu aT
      go_simp
      refine ⟨?_, ?_⟩
      · refine (CL _ _ (rts1 nT)).mono ?_
        clear nT
        rintro e W5 ⟨rfl, hb⟩
        refine ⟨hb, fun W6 hu => ?_⟩
        replace hb := below_then hb hu
        have G6 := below_then G4 hb
        clear hb hu
        go_simp
        refine ⟨?_, ?_⟩
        · have nS := heap_alloc_new W6 (.cells #[.int .i64 x] 25)
          have aS := below_alloc W6 (.cells #[.int .i64 x] 25)
          refine ⟨aS, fun W7 hu => ?_⟩
          replace nS := (hu.block _ (size_of_block nS)).trans nS
          have G7 := below_then G6 (below_then aS hu)
          clear hu aS
          go_simp
          refine ⟨?_, ?_⟩
          · refine (believed_c b s [x] _ _ (ints1 nS)).mono ?_
            rintro e W8 ⟨hp, hb⟩
            unfold BelPost at hp
            rw [if_pos hE.out] at hp
            obtain ⟨mr, rfl, hf⟩ := hp
            refine ⟨hb, fun W9 hu => ?_⟩
            replace hf := hf.later hu
            replace hb := below_then hb hu
            replace nS := (hb.block _ (size_of_block nS)).trans nS
            have G9 := below_then G7 hb
            clear hb hu
            refine ⟨_, fun _ => rfl, ?_⟩
            go_simp
            have nB := heap_alloc_new W9 (.cells #[.int .i64 0, .int .i64 0, .map none, .int .i64 0] 128)
            have aB := below_alloc W9 (.cells #[.int .i64 0, .int .i64 0, .map none, .int .i64 0] 128)
            have hBn : W2.heap.size ≤ W9.heap.size := G9.size
            refine ⟨aB, fun W10 hu => ?_⟩
            replace nB := (hu.block _ (size_of_block nB)).trans nB
            replace nS := ((below_then aB hu).block _ (size_of_block nS)).trans nS
            replace hf := hf.later (below_then aB hu)
            have G10 := below_then G9 (below_then aB hu)
            clear hu aB
            have f0 := Joins.unfrozen_of_block nB 0
            have f1 := Joins.unfrozen_of_block nB 1
            have f2 := Joins.unfrozen_of_block nB 2
            have f3 := Joins.unfrozen_of_block nB 3
            have g0 := Joins.cell_of_block nB 0
            have g1 := Joins.cell_of_block nB 1
            have g2 := Joins.cell_of_block nB 2
            have g3 := Joins.cell_of_block nB 3
            have hz := size_of_block nB
            have m9 := put4 (.int .i64 0) (.int .i64 b.n) (.map (some mr)) (.int .i64 (totalI (weightsL b s))) nB
            have BS : Below W9.heap.size W10 ((((W10.setCell ⟨W9.heap.size, 0, none⟩ (.int .i64 0)).setCell ⟨W9.heap.size, 1, none⟩ (.int .i64 b.n)).setCell ⟨W9.heap.size, 2, none⟩ (.map (some mr))).setCell ⟨W9.heap.size, 3, none⟩ (.int .i64 (totalI (weightsL b s)))) := ((((Below.refl _ _).setCell (by simp) _).setCell (by simp) _).setCell (by simp) _).setCell (by simp) _
            replace q1 := (BS.block _ (show w.heap.size + 1 < W9.heap.size by omega)).trans ((G10.block _ z1).trans q1)
            replace q2 := (BS.block _ (show w.heap.size + 1 + 1 < W9.heap.size by omega)).trans ((G10.block _ z2).trans q2)
            have hB2 := B2.size
            have B9 : Below w.heap.size w ((((W10.setCell ⟨W9.heap.size, 0, none⟩ (.int .i64 0)).setCell ⟨W9.heap.size, 1, none⟩ (.int .i64 b.n)).setCell ⟨W9.heap.size, 2, none⟩ (.map (some mr))).setCell ⟨W9.heap.size, 3, none⟩ (.int .i64 (totalI (weightsL b s)))) := ((((below_then B2 G10).setCell (by simp; omega) _).setCell (by simp; omega) _).setCell (by simp; omega) _).setCell (by simp; omega) _
            have hf9 := fm4 (.int .i64 0) (.int .i64 b.n) (.map (some mr)) (.int .i64 (totalI (weightsL b s))) nB hf
            have s0 := Joins.cell_of_block q1 0
            have s1 := Joins.cell_of_block q1 1
            unfold belV
            clear z0 z1 z2 nS BS q0 hf hB2
            go_wp2_with fail
            generalize (((W10.setCell ⟨W9.heap.size, 0, none⟩ (.int .i64 0)).setCell ⟨W9.heap.size, 1, none⟩ (.int .i64 b.n)).setCell ⟨W9.heap.size, 2, none⟩ (.map (some mr))).setCell ⟨W9.heap.size, 3, none⟩ (.int .i64 (totalI (weightsL b s))) = W9 at m9 q1 q2 hf9 B9 s0 s1 ⊢
            have M9 := Lib.hid m9
            have HK := Lib.hid hk
            clear m9 hk f0 f1 f2 f3 g0 g1 g2 g3 hz s0 s1
            refine (shortest_c b s r mr W9 hf9 HK.out HL.out).mono ?_
            rintro e w5 ⟨rfl, hb9⟩
            have f := (hb9.block _ (size_of_block q2)).trans q2
            have hBu := below_then B9 hb9
            have g0 := Joins.cell_of_block f 0
            have g1 := Joins.cell_of_block f 1
            have f0 := Joins.unfrozen_of_block f 0
            have f1 := Joins.unfrozen_of_block f 1
            have hzf := size_of_block f
            generalize hRR : shortS b s r = R at hR ⊢
            have HP := Lib.hid (put2 (.int .i64 R.lo) (.int .i64 R.hi) f)
            have HR := Lib.hid hR
            clear hR q2 q1 hf9
            unfold spV
            go_wp2_with fail
            refine bodyPost_ret (v := .tuple #[spV R, .int .i64 0]) ?_ rfl ⟨by rw [HR.out], (hBu.setCell (by show w.heap.size ≤ w.heap.size + 1 + 1; omega) _).setCell (by show w.heap.size ≤ w.heap.size + 1 + 1; omega) _⟩
            simp [spV, results, Try.results60, go_sem, HP.out.1, HP.out.2]
          · have nB := heap_alloc_new W7 (.cells #[.int .i64 0, .int .i64 0, .map none, .int .i64 0] 128)
            have aB := below_alloc W7 (.cells #[.int .i64 0, .int .i64 0, .map none, .int .i64 0] 128)
            have hBn : W2.heap.size ≤ W7.heap.size := G7.size
            refine ⟨aB, fun W8 hu => ?_⟩
            replace nB := (hu.block _ (size_of_block nB)).trans nB
            replace nS := ((below_then aB hu).block _ (size_of_block nS)).trans nS
            have G8 := below_then G7 (below_then aB hu)
            clear hu aB
            go_simp
            refine (believed_c b s [x] _ _ (ints1 nS)).mono ?_
            rintro e W9 ⟨hp, hb⟩
            unfold BelPost at hp
            rw [if_pos hE.out] at hp
            obtain ⟨mr, rfl, hf⟩ := hp
            refine ⟨hb, fun W10 hu => ?_⟩
            replace hf := hf.later hu
            replace hb := below_then hb hu
            replace nS := (hb.block _ (size_of_block nS)).trans nS
            replace nB := (hb.block _ (size_of_block nB)).trans nB
            have G10 := below_then G8 hb
            clear hb hu
            refine ⟨_, fun _ => rfl, ?_⟩
            go_simp
            have f0 := Joins.unfrozen_of_block nB 0
            have f1 := Joins.unfrozen_of_block nB 1
            have f2 := Joins.unfrozen_of_block nB 2
            have f3 := Joins.unfrozen_of_block nB 3
            have g0 := Joins.cell_of_block nB 0
            have g1 := Joins.cell_of_block nB 1
            have g2 := Joins.cell_of_block nB 2
            have g3 := Joins.cell_of_block nB 3
            have hz := size_of_block nB
            have m9 := put4 (.int .i64 0) (.int .i64 b.n) (.map (some mr)) (.int .i64 (totalI (weightsL b s))) nB
            have BS : Below W7.heap.size W10 ((((W10.setCell ⟨W7.heap.size, 0, none⟩ (.int .i64 0)).setCell ⟨W7.heap.size, 1, none⟩ (.int .i64 b.n)).setCell ⟨W7.heap.size, 2, none⟩ (.map (some mr))).setCell ⟨W7.heap.size, 3, none⟩ (.int .i64 (totalI (weightsL b s)))) := ((((Below.refl _ _).setCell (by simp) _).setCell (by simp) _).setCell (by simp) _).setCell (by simp) _
            replace q1 := (BS.block _ (show w.heap.size + 1 < W7.heap.size by omega)).trans ((G10.block _ z1).trans q1)
            replace q2 := (BS.block _ (show w.heap.size + 1 + 1 < W7.heap.size by omega)).trans ((G10.block _ z2).trans q2)
            have hB2 := B2.size
            have B9 : Below w.heap.size w ((((W10.setCell ⟨W7.heap.size, 0, none⟩ (.int .i64 0)).setCell ⟨W7.heap.size, 1, none⟩ (.int .i64 b.n)).setCell ⟨W7.heap.size, 2, none⟩ (.map (some mr))).setCell ⟨W7.heap.size, 3, none⟩ (.int .i64 (totalI (weightsL b s)))) := ((((below_then B2 G10).setCell (by simp; omega) _).setCell (by simp; omega) _).setCell (by simp; omega) _).setCell (by simp; omega) _
            have hf9 := fm4 (.int .i64 0) (.int .i64 b.n) (.map (some mr)) (.int .i64 (totalI (weightsL b s))) nB hf
            have s0 := Joins.cell_of_block q1 0
            have s1 := Joins.cell_of_block q1 1
            unfold belV
            clear z0 z1 z2 nS BS q0 hf hB2
            go_wp2_with fail
            generalize (((W10.setCell ⟨W7.heap.size, 0, none⟩ (.int .i64 0)).setCell ⟨W7.heap.size, 1, none⟩ (.int .i64 b.n)).setCell ⟨W7.heap.size, 2, none⟩ (.map (some mr))).setCell ⟨W7.heap.size, 3, none⟩ (.int .i64 (totalI (weightsL b s))) = W9 at m9 q1 q2 hf9 B9 s0 s1 ⊢
            have M9 := Lib.hid m9
            have HK := Lib.hid hk
            clear m9 hk f0 f1 f2 f3 g0 g1 g2 g3 hz s0 s1
            refine (shortest_c b s r mr W9 hf9 HK.out HL.out).mono ?_
            rintro e w5 ⟨rfl, hb9⟩
            have f := (hb9.block _ (size_of_block q2)).trans q2
            have hBu := below_then B9 hb9
            have g0 := Joins.cell_of_block f 0
            have g1 := Joins.cell_of_block f 1
            have f0 := Joins.unfrozen_of_block f 0
            have f1 := Joins.unfrozen_of_block f 1
            have hzf := size_of_block f
            generalize hRR : shortS b s r = R at hR ⊢
            have HP := Lib.hid (put2 (.int .i64 R.lo) (.int .i64 R.hi) f)
            have HR := Lib.hid hR
            clear hR q2 q1 hf9
            unfold spV
            go_wp2_with fail
            refine bodyPost_ret (v := .tuple #[spV R, .int .i64 0]) ?_ rfl ⟨by rw [HR.out], (hBu.setCell (by show w.heap.size ≤ w.heap.size + 1 + 1; omega) _).setCell (by show w.heap.size ≤ w.heap.size + 1 + 1; omega) _⟩
            simp [spV, results, Try.results60, go_sem, HP.out.1, HP.out.2]
        · have nB := heap_alloc_new W6 (.cells #[.int .i64 0, .int .i64 0, .map none, .int .i64 0] 128)
          have aB := below_alloc W6 (.cells #[.int .i64 0, .int .i64 0, .map none, .int .i64 0] 128)
          have hBn : W2.heap.size ≤ W6.heap.size := G6.size
          refine ⟨aB, fun W7 hu => ?_⟩
          replace nB := (hu.block _ (size_of_block nB)).trans nB
          have G7 := below_then G6 (below_then aB hu)
          clear hu aB
          go_simp
          have nS := heap_alloc_new W7 (.cells #[.int .i64 x] 25)
          have aS := below_alloc W7 (.cells #[.int .i64 x] 25)
          refine ⟨aS, fun W8 hu => ?_⟩
          replace nS := (hu.block _ (size_of_block nS)).trans nS
          replace nB := ((below_then aS hu).block _ (size_of_block nB)).trans nB
          have G8 := below_then G7 (below_then aS hu)
          clear hu aS
          go_simp
          refine (believed_c b s [x] _ _ (ints1 nS)).mono ?_
          rintro e W9 ⟨hp, hb⟩
          unfold BelPost at hp
          rw [if_pos hE.out] at hp
          obtain ⟨mr, rfl, hf⟩ := hp
          refine ⟨hb, fun W10 hu => ?_⟩
          replace hf := hf.later hu
          replace hb := below_then hb hu
          replace nB := (hb.block _ (size_of_block nB)).trans nB
          replace nS := (hb.block _ (size_of_block nS)).trans nS
          have G10 := below_then G8 hb
          clear hb hu
          refine ⟨_, fun _ => rfl, ?_⟩
          go_simp
          have f0 := Joins.unfrozen_of_block nB 0
          have f1 := Joins.unfrozen_of_block nB 1
          have f2 := Joins.unfrozen_of_block nB 2
          have f3 := Joins.unfrozen_of_block nB 3
          have g0 := Joins.cell_of_block nB 0
          have g1 := Joins.cell_of_block nB 1
          have g2 := Joins.cell_of_block nB 2
          have g3 := Joins.cell_of_block nB 3
          have hz := size_of_block nB
          have m9 := put4 (.int .i64 0) (.int .i64 b.n) (.map (some mr)) (.int .i64 (totalI (weightsL b s))) nB
          have BS : Below W6.heap.size W10 ((((W10.setCell ⟨W6.heap.size, 0, none⟩ (.int .i64 0)).setCell ⟨W6.heap.size, 1, none⟩ (.int .i64 b.n)).setCell ⟨W6.heap.size, 2, none⟩ (.map (some mr))).setCell ⟨W6.heap.size, 3, none⟩ (.int .i64 (totalI (weightsL b s)))) := ((((Below.refl _ _).setCell (by simp) _).setCell (by simp) _).setCell (by simp) _).setCell (by simp) _
          replace q1 := (BS.block _ (show w.heap.size + 1 < W6.heap.size by omega)).trans ((G10.block _ z1).trans q1)
          replace q2 := (BS.block _ (show w.heap.size + 1 + 1 < W6.heap.size by omega)).trans ((G10.block _ z2).trans q2)
          have hB2 := B2.size
          have B9 : Below w.heap.size w ((((W10.setCell ⟨W6.heap.size, 0, none⟩ (.int .i64 0)).setCell ⟨W6.heap.size, 1, none⟩ (.int .i64 b.n)).setCell ⟨W6.heap.size, 2, none⟩ (.map (some mr))).setCell ⟨W6.heap.size, 3, none⟩ (.int .i64 (totalI (weightsL b s)))) := ((((below_then B2 G10).setCell (by simp; omega) _).setCell (by simp; omega) _).setCell (by simp; omega) _).setCell (by simp; omega) _
          have hf9 := fm4 (.int .i64 0) (.int .i64 b.n) (.map (some mr)) (.int .i64 (totalI (weightsL b s))) nB hf
          have s0 := Joins.cell_of_block q1 0
          have s1 := Joins.cell_of_block q1 1
          unfold belV
          clear z0 z1 z2 nS BS q0 hf hB2
          go_wp2_with fail
          generalize (((W10.setCell ⟨W6.heap.size, 0, none⟩ (.int .i64 0)).setCell ⟨W6.heap.size, 1, none⟩ (.int .i64 b.n)).setCell ⟨W6.heap.size, 2, none⟩ (.map (some mr))).setCell ⟨W6.heap.size, 3, none⟩ (.int .i64 (totalI (weightsL b s))) = W9 at m9 q1 q2 hf9 B9 s0 s1 ⊢
          have M9 := Lib.hid m9
          have HK := Lib.hid hk
          clear m9 hk f0 f1 f2 f3 g0 g1 g2 g3 hz s0 s1
          refine (shortest_c b s r mr W9 hf9 HK.out HL.out).mono ?_
          rintro e w5 ⟨rfl, hb9⟩
          have f := (hb9.block _ (size_of_block q2)).trans q2
          have hBu := below_then B9 hb9
          have g0 := Joins.cell_of_block f 0
          have g1 := Joins.cell_of_block f 1
          have f0 := Joins.unfrozen_of_block f 0
          have f1 := Joins.unfrozen_of_block f 1
          have hzf := size_of_block f
          generalize hRR : shortS b s r = R at hR ⊢
          have HP := Lib.hid (put2 (.int .i64 R.lo) (.int .i64 R.hi) f)
          have HR := Lib.hid hR
          clear hR q2 q1 hf9
          unfold spV
          go_wp2_with fail
          refine bodyPost_ret (v := .tuple #[spV R, .int .i64 0]) ?_ rfl ⟨by rw [HR.out], (hBu.setCell (by show w.heap.size ≤ w.heap.size + 1 + 1; omega) _).setCell (by show w.heap.size ≤ w.heap.size + 1 + 1; omega) _⟩
          simp [spV, results, Try.results60, go_sem, HP.out.1, HP.out.2]
      · have nB := heap_alloc_new W4 (.cells #[.int .i64 0, .int .i64 0, .map none, .int .i64 0] 128)
        have aB := below_alloc W4 (.cells #[.int .i64 0, .int .i64 0, .map none, .int .i64 0] 128)
        have hBn : W2.heap.size ≤ W4.heap.size := G4.size
        refine ⟨aB, fun W5 hu => ?_⟩
        replace nB := (hu.block _ (size_of_block nB)).trans nB
        replace nT := ((below_then aB hu).block _ (size_of_block nT)).trans nT
        have G5 := below_then G4 (below_then aB hu)
        clear hu aB
        go_simp
        refine (CL _ _ (rts1 nT)).mono ?_
        clear nT
        rintro e W6 ⟨rfl, hb⟩
        refine ⟨hb, fun W7 hu => ?_⟩
        replace hb := below_then hb hu
        replace nB := (hb.block _ (size_of_block nB)).trans nB
        have G7 := below_then G5 hb
        clear hb hu
        go_simp
        have nS := heap_alloc_new W7 (.cells #[.int .i64 x] 25)
        have aS := below_alloc W7 (.cells #[.int .i64 x] 25)
        refine ⟨aS, fun W8 hu => ?_⟩
        replace nS := (hu.block _ (size_of_block nS)).trans nS
        replace nB := ((below_then aS hu).block _ (size_of_block nB)).trans nB
        have G8 := below_then G7 (below_then aS hu)
        clear hu aS
        go_simp
        refine (believed_c b s [x] _ _ (ints1 nS)).mono ?_
        rintro e W9 ⟨hp, hb⟩
        unfold BelPost at hp
        rw [if_pos hE.out] at hp
        obtain ⟨mr, rfl, hf⟩ := hp
        refine ⟨hb, fun W10 hu => ?_⟩
        replace hf := hf.later hu
        replace hb := below_then hb hu
        replace nB := (hb.block _ (size_of_block nB)).trans nB
        replace nS := (hb.block _ (size_of_block nS)).trans nS
        have G10 := below_then G8 hb
        clear hb hu
        refine ⟨_, fun _ => rfl, ?_⟩
        go_simp
        have f0 := Joins.unfrozen_of_block nB 0
        have f1 := Joins.unfrozen_of_block nB 1
        have f2 := Joins.unfrozen_of_block nB 2
        have f3 := Joins.unfrozen_of_block nB 3
        have g0 := Joins.cell_of_block nB 0
        have g1 := Joins.cell_of_block nB 1
        have g2 := Joins.cell_of_block nB 2
        have g3 := Joins.cell_of_block nB 3
        have hz := size_of_block nB
        have m9 := put4 (.int .i64 0) (.int .i64 b.n) (.map (some mr)) (.int .i64 (totalI (weightsL b s))) nB
        have BS : Below W4.heap.size W10 ((((W10.setCell ⟨W4.heap.size, 0, none⟩ (.int .i64 0)).setCell ⟨W4.heap.size, 1, none⟩ (.int .i64 b.n)).setCell ⟨W4.heap.size, 2, none⟩ (.map (some mr))).setCell ⟨W4.heap.size, 3, none⟩ (.int .i64 (totalI (weightsL b s)))) := ((((Below.refl _ _).setCell (by simp) _).setCell (by simp) _).setCell (by simp) _).setCell (by simp) _
        replace q1 := (BS.block _ (show w.heap.size + 1 < W4.heap.size by omega)).trans ((G10.block _ z1).trans q1)
        replace q2 := (BS.block _ (show w.heap.size + 1 + 1 < W4.heap.size by omega)).trans ((G10.block _ z2).trans q2)
        have hB2 := B2.size
        have B9 : Below w.heap.size w ((((W10.setCell ⟨W4.heap.size, 0, none⟩ (.int .i64 0)).setCell ⟨W4.heap.size, 1, none⟩ (.int .i64 b.n)).setCell ⟨W4.heap.size, 2, none⟩ (.map (some mr))).setCell ⟨W4.heap.size, 3, none⟩ (.int .i64 (totalI (weightsL b s)))) := ((((below_then B2 G10).setCell (by simp; omega) _).setCell (by simp; omega) _).setCell (by simp; omega) _).setCell (by simp; omega) _
        have hf9 := fm4 (.int .i64 0) (.int .i64 b.n) (.map (some mr)) (.int .i64 (totalI (weightsL b s))) nB hf
        have s0 := Joins.cell_of_block q1 0
        have s1 := Joins.cell_of_block q1 1
        unfold belV
        clear z0 z1 z2 nS BS q0 hf hB2
        go_wp2_with fail
        generalize (((W10.setCell ⟨W4.heap.size, 0, none⟩ (.int .i64 0)).setCell ⟨W4.heap.size, 1, none⟩ (.int .i64 b.n)).setCell ⟨W4.heap.size, 2, none⟩ (.map (some mr))).setCell ⟨W4.heap.size, 3, none⟩ (.int .i64 (totalI (weightsL b s))) = W9 at m9 q1 q2 hf9 B9 s0 s1 ⊢
        have M9 := Lib.hid m9
        have HK := Lib.hid hk
        clear m9 hk f0 f1 f2 f3 g0 g1 g2 g3 hz s0 s1
        refine (shortest_c b s r mr W9 hf9 HK.out HL.out).mono ?_
        rintro e w5 ⟨rfl, hb9⟩
        have f := (hb9.block _ (size_of_block q2)).trans q2
        have hBu := below_then B9 hb9
        have g0 := Joins.cell_of_block f 0
        have g1 := Joins.cell_of_block f 1
        have f0 := Joins.unfrozen_of_block f 0
        have f1 := Joins.unfrozen_of_block f 1
        have hzf := size_of_block f
        generalize hRR : shortS b s r = R at hR ⊢
        have HP := Lib.hid (put2 (.int .i64 R.lo) (.int .i64 R.hi) f)
        have HR := Lib.hid hR
        clear hR q2 q1 hf9
        unfold spV
        go_wp2_with fail
        refine bodyPost_ret (v := .tuple #[spV R, .int .i64 0]) ?_ rfl ⟨by rw [HR.out], (hBu.setCell (by show w.heap.size ≤ w.heap.size + 1 + 1; omega) _).setCell (by show w.heap.size ≤ w.heap.size + 1 + 1; omega) _⟩
        simp [spV, results, Try.results60, go_sem, HP.out.1, HP.out.2]
    · go_simp
      have nB := heap_alloc_new W3 (.cells #[.int .i64 0, .int .i64 0, .map none, .int .i64 0] 128)
      have aB := below_alloc W3 (.cells #[.int .i64 0, .int .i64 0, .map none, .int .i64 0] 128)
      have hBn : W2.heap.size ≤ W3.heap.size := G3.size
      refine ⟨aB, fun W4 hu => ?_⟩
      replace nB := (hu.block _ (size_of_block nB)).trans nB
      have G4 := below_then G3 (below_then aB hu)
      clear hu aB
      go_simp
      have nT := heap_alloc_new W4 (.cells #[.int .i64 r.num, .int .i64 r.den] 53)
      have aT := below_alloc W4 (.cells #[.int .i64 r.num, .int .i64 r.den] 53)
      refine ⟨aT, fun W5 hu => ?_⟩
      replace nT := (hu.block _ (size_of_block nT)).trans nT
      replace nB := ((below_then aT hu).block _ (size_of_block nB)).trans nB
      have G5 := below_then G4 (below_then aT hu)
      clear hu aT
      go_simp
      refine (CL _ _ (rts1 nT)).mono ?_
      clear nT
      rintro e W6 ⟨rfl, hb⟩
      refine ⟨hb, fun W7 hu => ?_⟩
      replace hb := below_then hb hu
      replace nB := (hb.block _ (size_of_block nB)).trans nB
      have G7 := below_then G5 hb
      clear hb hu
      go_simp
      have nS := heap_alloc_new W7 (.cells #[.int .i64 x] 25)
      have aS := below_alloc W7 (.cells #[.int .i64 x] 25)
      refine ⟨aS, fun W8 hu => ?_⟩
      replace nS := (hu.block _ (size_of_block nS)).trans nS
      replace nB := ((below_then aS hu).block _ (size_of_block nB)).trans nB
      have G8 := below_then G7 (below_then aS hu)
      clear hu aS
      go_simp
      refine (believed_c b s [x] _ _ (ints1 nS)).mono ?_
      rintro e W9 ⟨hp, hb⟩
      unfold BelPost at hp
      rw [if_pos hE.out] at hp
      obtain ⟨mr, rfl, hf⟩ := hp
      refine ⟨hb, fun W10 hu => ?_⟩
      replace hf := hf.later hu
      replace hb := below_then hb hu
      replace nB := (hb.block _ (size_of_block nB)).trans nB
      replace nS := (hb.block _ (size_of_block nS)).trans nS
      have G10 := below_then G8 hb
      clear hb hu
      refine ⟨_, fun _ => rfl, ?_⟩
      go_simp
      have f0 := Joins.unfrozen_of_block nB 0
      have f1 := Joins.unfrozen_of_block nB 1
      have f2 := Joins.unfrozen_of_block nB 2
      have f3 := Joins.unfrozen_of_block nB 3
      have g0 := Joins.cell_of_block nB 0
      have g1 := Joins.cell_of_block nB 1
      have g2 := Joins.cell_of_block nB 2
      have g3 := Joins.cell_of_block nB 3
      have hz := size_of_block nB
      have m9 := put4 (.int .i64 0) (.int .i64 b.n) (.map (some mr)) (.int .i64 (totalI (weightsL b s))) nB
      have BS : Below W3.heap.size W10 ((((W10.setCell ⟨W3.heap.size, 0, none⟩ (.int .i64 0)).setCell ⟨W3.heap.size, 1, none⟩ (.int .i64 b.n)).setCell ⟨W3.heap.size, 2, none⟩ (.map (some mr))).setCell ⟨W3.heap.size, 3, none⟩ (.int .i64 (totalI (weightsL b s)))) := ((((Below.refl _ _).setCell (by simp) _).setCell (by simp) _).setCell (by simp) _).setCell (by simp) _
      replace q1 := (BS.block _ (show w.heap.size + 1 < W3.heap.size by omega)).trans ((G10.block _ z1).trans q1)
      replace q2 := (BS.block _ (show w.heap.size + 1 + 1 < W3.heap.size by omega)).trans ((G10.block _ z2).trans q2)
      have hB2 := B2.size
      have B9 : Below w.heap.size w ((((W10.setCell ⟨W3.heap.size, 0, none⟩ (.int .i64 0)).setCell ⟨W3.heap.size, 1, none⟩ (.int .i64 b.n)).setCell ⟨W3.heap.size, 2, none⟩ (.map (some mr))).setCell ⟨W3.heap.size, 3, none⟩ (.int .i64 (totalI (weightsL b s)))) := ((((below_then B2 G10).setCell (by simp; omega) _).setCell (by simp; omega) _).setCell (by simp; omega) _).setCell (by simp; omega) _
      have hf9 := fm4 (.int .i64 0) (.int .i64 b.n) (.map (some mr)) (.int .i64 (totalI (weightsL b s))) nB hf
      have s0 := Joins.cell_of_block q1 0
      have s1 := Joins.cell_of_block q1 1
      unfold belV
      clear z0 z1 z2 nS BS q0 hf hB2
      go_wp2_with fail
      generalize (((W10.setCell ⟨W3.heap.size, 0, none⟩ (.int .i64 0)).setCell ⟨W3.heap.size, 1, none⟩ (.int .i64 b.n)).setCell ⟨W3.heap.size, 2, none⟩ (.map (some mr))).setCell ⟨W3.heap.size, 3, none⟩ (.int .i64 (totalI (weightsL b s))) = W9 at m9 q1 q2 hf9 B9 s0 s1 ⊢
      have M9 := Lib.hid m9
      have HK := Lib.hid hk
      clear m9 hk f0 f1 f2 f3 g0 g1 g2 g3 hz s0 s1
      refine (shortest_c b s r mr W9 hf9 HK.out HL.out).mono ?_
      rintro e w5 ⟨rfl, hb9⟩
      have f := (hb9.block _ (size_of_block q2)).trans q2
      have hBu := below_then B9 hb9
      have g0 := Joins.cell_of_block f 0
      have g1 := Joins.cell_of_block f 1
      have f0 := Joins.unfrozen_of_block f 0
      have f1 := Joins.unfrozen_of_block f 1
      have hzf := size_of_block f
      generalize hRR : shortS b s r = R at hR ⊢
      have HP := Lib.hid (put2 (.int .i64 R.lo) (.int .i64 R.hi) f)
      have HR := Lib.hid hR
      clear hR q2 q1 hf9
      unfold spV
      go_wp2_with fail
      refine bodyPost_ret (v := .tuple #[spV R, .int .i64 0]) ?_ rfl ⟨by rw [HR.out], (hBu.setCell (by show w.heap.size ≤ w.heap.size + 1 + 1; omega) _).setCell (by show w.heap.size ≤ w.heap.size + 1 + 1; omega) _⟩
      simp [spV, results, Try.results60, go_sem, HP.out.1, HP.out.2]
  · have hE := Lib.hid h
    have hR := HB.out h
    clear HA HB h
    go_enter Try.func60, Try.ntmps60
    go_wp2_with fail
    have QS := Lib.hid qs
    clear qs
    generalize ((w.alloc _).alloc _).alloc _ = W1 at q0 q1 q2 QS qb ⊢
    refine wp_region_planP 10 [.f [0, 1, 2], .s 3, .s 4, .s 5, .s 6] [7, 8, 9] [11, 12] (by kernel_rfl) (by kernel_rfl) (by intro c a d v w h; cases d <;> exact h) fun W2 hb2 => ?_
    have B2 := below_then qb hb2
    replace q0 := (hb2.block _ (size_of_block q0)).trans q0
    replace q1 := (hb2.block _ (size_of_block q1)).trans q1
    replace q2 := (hb2.block _ (size_of_block q2)).trans q2
    clear qb hb2
    have g0 := Joins.cell_of_block q0 0
    have g1 := Joins.cell_of_block q0 1
    have g2 := Joins.cell_of_block q0 2
    have g3 := Joins.cell_of_block q0 3
    have g4 := Joins.cell_of_block q0 4
    have g5 := Joins.cell_of_block q0 5
    have g6 := Joins.cell_of_block q0 6
    have g7 := Joins.cell_of_block q0 7
    have g8 := Joins.cell_of_block q0 8
    have g9 := Joins.cell_of_block q0 9
    have s0 := Joins.cell_of_block q1 0
    have s1 := Joins.cell_of_block q1 1
    have z0 := size_of_block q0
    have z1 := size_of_block q1
    have z2 := size_of_block q2
    have hcg : ∀ (g : Gr W2) b o, b < W2.heap.size → g.val.cell? ⟨b, o, none⟩ = W2.cell? ⟨b, o, none⟩ := fun g b o h => (bcell g.b).1 b o h
    simp only [pick, List.filterMap_cons, List.filterMap_nil, List.getElem?_toArray, List.getElem?_cons_succ, List.getElem?_cons_zero, wpPlanAG, wpPlan, wpPure]
    refine wpRel_step (fun K hK => ?_); go_simp; refine hK _ ?_; clear hK K
    refine wpRel_step (fun K hK => ?_); go_simp; refine hK _ ?_; clear hK K
    refine wpRel_step (fun K hK => ?_); go_simp; refine hK _ ?_; clear hK K
    refine wpRel_nil fun W3 hb3 => ?_
    clear g0 g1 g2 g3 g4 g5 g6 g7 g8 g9 s0 s1 hcg
    have G3 := hb3
    clear hb3
    refine ⟨⟨_, rfl, rfl, ?_⟩, ⟨_, rfl, rfl, ?_⟩⟩
    · go_simp
      have nT := heap_alloc_new W3 (.cells #[.int .i64 r.num, .int .i64 r.den] 53)
      have aT := below_alloc W3 (.cells #[.int .i64 r.num, .int .i64 r.den] 53)
      refine ⟨aT, fun W4 hu => ?_⟩
      replace nT := (hu.block _ (size_of_block nT)).trans nT
      have G4 := below_then G3 (below_then aT hu)
      clear hu aT
      go_simp
      refine ⟨?_, ?_⟩
      · refine (CL _ _ (rts1 nT)).mono ?_
        clear nT
        rintro e W5 ⟨rfl, hb⟩
        refine ⟨hb, fun W6 hu => ?_⟩
        replace hb := below_then hb hu
        have G6 := below_then G4 hb
        clear hb hu
        go_simp
        refine ⟨?_, ?_⟩
        · have nS := heap_alloc_new W6 (.cells #[.int .i64 x] 25)
          have aS := below_alloc W6 (.cells #[.int .i64 x] 25)
          refine ⟨aS, fun W7 hu => ?_⟩
          replace nS := (hu.block _ (size_of_block nS)).trans nS
          have G7 := below_then G6 (below_then aS hu)
          clear hu aS
          go_simp
          refine ⟨?_, ?_⟩
          · refine (believed_c b s [x] _ _ (ints1 nS)).mono ?_
            rintro e W8 ⟨hp, hb⟩
            unfold BelPost at hp
            rw [if_neg hE.out] at hp
            subst hp
            refine ⟨hb, fun W9 hu => ?_⟩
            replace hb := below_then hb hu
            replace nS := (hb.block _ (size_of_block nS)).trans nS
            have G9 := below_then G7 hb
            clear hb hu
            refine ⟨_, fun _ => rfl, ?_⟩
            go_simp
            have nB := heap_alloc_new W9 (.cells #[.int .i64 0, .int .i64 0, .map none, .int .i64 0] 128)
            have aB := below_alloc W9 (.cells #[.int .i64 0, .int .i64 0, .map none, .int .i64 0] 128)
            have hBn : W2.heap.size ≤ W9.heap.size := G9.size
            refine ⟨aB, fun W10 hu => ?_⟩
            replace nB := (hu.block _ (size_of_block nB)).trans nB
            replace nS := ((below_then aB hu).block _ (size_of_block nS)).trans nS
            have G10 := below_then G9 (below_then aB hu)
            clear hu aB
            have f0 := Joins.unfrozen_of_block nB 0
            have f1 := Joins.unfrozen_of_block nB 1
            have f2 := Joins.unfrozen_of_block nB 2
            have f3 := Joins.unfrozen_of_block nB 3
            have g0 := Joins.cell_of_block nB 0
            have g1 := Joins.cell_of_block nB 1
            have g2 := Joins.cell_of_block nB 2
            have g3 := Joins.cell_of_block nB 3
            have hz := size_of_block nB
            have m9 := put4 (.int .i64 0) (.int .i64 0) (.map none) (.int .i64 0) nB
            have BS : Below W9.heap.size W10 ((((W10.setCell ⟨W9.heap.size, 0, none⟩ (.int .i64 0)).setCell ⟨W9.heap.size, 1, none⟩ (.int .i64 0)).setCell ⟨W9.heap.size, 2, none⟩ (.map none)).setCell ⟨W9.heap.size, 3, none⟩ (.int .i64 0)) := ((((Below.refl _ _).setCell (by simp) _).setCell (by simp) _).setCell (by simp) _).setCell (by simp) _
            replace q1 := (BS.block _ (show w.heap.size + 1 < W9.heap.size by omega)).trans ((G10.block _ z1).trans q1)
            replace q2 := (BS.block _ (show w.heap.size + 1 + 1 < W9.heap.size by omega)).trans ((G10.block _ z2).trans q2)
            have hB2 := B2.size
            have B9 : Below w.heap.size w ((((W10.setCell ⟨W9.heap.size, 0, none⟩ (.int .i64 0)).setCell ⟨W9.heap.size, 1, none⟩ (.int .i64 0)).setCell ⟨W9.heap.size, 2, none⟩ (.map none)).setCell ⟨W9.heap.size, 3, none⟩ (.int .i64 0)) := ((((below_then B2 G10).setCell (by simp; omega) _).setCell (by simp; omega) _).setCell (by simp; omega) _).setCell (by simp; omega) _
            have hd : (believeE b s [x] != 0) = true := by simpa using hE.out
            clear z0 z1 z2 nS BS q0 hB2 q1
            have r0 := Joins.cell_of_block q2 0
            have r1 := Joins.cell_of_block q2 1
            have k0 := Joins.unfrozen_of_block q2 0
            have k1 := Joins.unfrozen_of_block q2 1
            have zq := size_of_block q2
            have HP := Lib.hid (put2 (.int .i64 0) (.int .i64 0) q2)
            have HR := Lib.hid hR
            clear hR
            clear q2
            go_wp2_with fail
            generalize (((W10.setCell ⟨W9.heap.size, 0, none⟩ (.int .i64 0)).setCell ⟨W9.heap.size, 1, none⟩ (.int .i64 0)).setCell ⟨W9.heap.size, 2, none⟩ (.map none)).setCell ⟨W9.heap.size, 3, none⟩ (.int .i64 0) = W9 at m9 B9 HP r0 r1 k0 k1 zq ⊢
            refine bodyPost_ret (v := .tuple #[spV ⟨0, 0⟩, .int .i64 (believeE b s [x])]) ?_ rfl ⟨by rw [HR.out], (B9.setCell (by show w.heap.size ≤ w.heap.size + 1 + 1; omega) _).setCell (by show w.heap.size ≤ w.heap.size + 1 + 1; omega) _⟩
            simp [spV, results, Try.results60, go_sem, HP.out.1, HP.out.2]
          · have nB := heap_alloc_new W7 (.cells #[.int .i64 0, .int .i64 0, .map none, .int .i64 0] 128)
            have aB := below_alloc W7 (.cells #[.int .i64 0, .int .i64 0, .map none, .int .i64 0] 128)
            have hBn : W2.heap.size ≤ W7.heap.size := G7.size
            refine ⟨aB, fun W8 hu => ?_⟩
            replace nB := (hu.block _ (size_of_block nB)).trans nB
            replace nS := ((below_then aB hu).block _ (size_of_block nS)).trans nS
            have G8 := below_then G7 (below_then aB hu)
            clear hu aB
            go_simp
            refine (believed_c b s [x] _ _ (ints1 nS)).mono ?_
            rintro e W9 ⟨hp, hb⟩
            unfold BelPost at hp
            rw [if_neg hE.out] at hp
            subst hp
            refine ⟨hb, fun W10 hu => ?_⟩
            replace hb := below_then hb hu
            replace nS := (hb.block _ (size_of_block nS)).trans nS
            replace nB := (hb.block _ (size_of_block nB)).trans nB
            have G10 := below_then G8 hb
            clear hb hu
            refine ⟨_, fun _ => rfl, ?_⟩
            go_simp
            have f0 := Joins.unfrozen_of_block nB 0
            have f1 := Joins.unfrozen_of_block nB 1
            have f2 := Joins.unfrozen_of_block nB 2
            have f3 := Joins.unfrozen_of_block nB 3
            have g0 := Joins.cell_of_block nB 0
            have g1 := Joins.cell_of_block nB 1
            have g2 := Joins.cell_of_block nB 2
            have g3 := Joins.cell_of_block nB 3
            have hz := size_of_block nB
            have m9 := put4 (.int .i64 0) (.int .i64 0) (.map none) (.int .i64 0) nB
            have BS : Below W7.heap.size W10 ((((W10.setCell ⟨W7.heap.size, 0, none⟩ (.int .i64 0)).setCell ⟨W7.heap.size, 1, none⟩ (.int .i64 0)).setCell ⟨W7.heap.size, 2, none⟩ (.map none)).setCell ⟨W7.heap.size, 3, none⟩ (.int .i64 0)) := ((((Below.refl _ _).setCell (by simp) _).setCell (by simp) _).setCell (by simp) _).setCell (by simp) _
            replace q1 := (BS.block _ (show w.heap.size + 1 < W7.heap.size by omega)).trans ((G10.block _ z1).trans q1)
            replace q2 := (BS.block _ (show w.heap.size + 1 + 1 < W7.heap.size by omega)).trans ((G10.block _ z2).trans q2)
            have hB2 := B2.size
            have B9 : Below w.heap.size w ((((W10.setCell ⟨W7.heap.size, 0, none⟩ (.int .i64 0)).setCell ⟨W7.heap.size, 1, none⟩ (.int .i64 0)).setCell ⟨W7.heap.size, 2, none⟩ (.map none)).setCell ⟨W7.heap.size, 3, none⟩ (.int .i64 0)) := ((((below_then B2 G10).setCell (by simp; omega) _).setCell (by simp; omega) _).setCell (by simp; omega) _).setCell (by simp; omega) _
            have hd : (believeE b s [x] != 0) = true := by simpa using hE.out
            clear z0 z1 z2 nS BS q0 hB2 q1
            have r0 := Joins.cell_of_block q2 0
            have r1 := Joins.cell_of_block q2 1
            have k0 := Joins.unfrozen_of_block q2 0
            have k1 := Joins.unfrozen_of_block q2 1
            have zq := size_of_block q2
            have HP := Lib.hid (put2 (.int .i64 0) (.int .i64 0) q2)
            have HR := Lib.hid hR
            clear hR
            clear q2
            go_wp2_with fail
            generalize (((W10.setCell ⟨W7.heap.size, 0, none⟩ (.int .i64 0)).setCell ⟨W7.heap.size, 1, none⟩ (.int .i64 0)).setCell ⟨W7.heap.size, 2, none⟩ (.map none)).setCell ⟨W7.heap.size, 3, none⟩ (.int .i64 0) = W9 at m9 B9 HP r0 r1 k0 k1 zq ⊢
            refine bodyPost_ret (v := .tuple #[spV ⟨0, 0⟩, .int .i64 (believeE b s [x])]) ?_ rfl ⟨by rw [HR.out], (B9.setCell (by show w.heap.size ≤ w.heap.size + 1 + 1; omega) _).setCell (by show w.heap.size ≤ w.heap.size + 1 + 1; omega) _⟩
            simp [spV, results, Try.results60, go_sem, HP.out.1, HP.out.2]
        · have nB := heap_alloc_new W6 (.cells #[.int .i64 0, .int .i64 0, .map none, .int .i64 0] 128)
          have aB := below_alloc W6 (.cells #[.int .i64 0, .int .i64 0, .map none, .int .i64 0] 128)
          have hBn : W2.heap.size ≤ W6.heap.size := G6.size
          refine ⟨aB, fun W7 hu => ?_⟩
          replace nB := (hu.block _ (size_of_block nB)).trans nB
          have G7 := below_then G6 (below_then aB hu)
          clear hu aB
          go_simp
          have nS := heap_alloc_new W7 (.cells #[.int .i64 x] 25)
          have aS := below_alloc W7 (.cells #[.int .i64 x] 25)
          refine ⟨aS, fun W8 hu => ?_⟩
          replace nS := (hu.block _ (size_of_block nS)).trans nS
          replace nB := ((below_then aS hu).block _ (size_of_block nB)).trans nB
          have G8 := below_then G7 (below_then aS hu)
          clear hu aS
          go_simp
          refine (believed_c b s [x] _ _ (ints1 nS)).mono ?_
          rintro e W9 ⟨hp, hb⟩
          unfold BelPost at hp
          rw [if_neg hE.out] at hp
          subst hp
          refine ⟨hb, fun W10 hu => ?_⟩
          replace hb := below_then hb hu
          replace nB := (hb.block _ (size_of_block nB)).trans nB
          replace nS := (hb.block _ (size_of_block nS)).trans nS
          have G10 := below_then G8 hb
          clear hb hu
          refine ⟨_, fun _ => rfl, ?_⟩
          go_simp
          have f0 := Joins.unfrozen_of_block nB 0
          have f1 := Joins.unfrozen_of_block nB 1
          have f2 := Joins.unfrozen_of_block nB 2
          have f3 := Joins.unfrozen_of_block nB 3
          have g0 := Joins.cell_of_block nB 0
          have g1 := Joins.cell_of_block nB 1
          have g2 := Joins.cell_of_block nB 2
          have g3 := Joins.cell_of_block nB 3
          have hz := size_of_block nB
          have m9 := put4 (.int .i64 0) (.int .i64 0) (.map none) (.int .i64 0) nB
          have BS : Below W6.heap.size W10 ((((W10.setCell ⟨W6.heap.size, 0, none⟩ (.int .i64 0)).setCell ⟨W6.heap.size, 1, none⟩ (.int .i64 0)).setCell ⟨W6.heap.size, 2, none⟩ (.map none)).setCell ⟨W6.heap.size, 3, none⟩ (.int .i64 0)) := ((((Below.refl _ _).setCell (by simp) _).setCell (by simp) _).setCell (by simp) _).setCell (by simp) _
          replace q1 := (BS.block _ (show w.heap.size + 1 < W6.heap.size by omega)).trans ((G10.block _ z1).trans q1)
          replace q2 := (BS.block _ (show w.heap.size + 1 + 1 < W6.heap.size by omega)).trans ((G10.block _ z2).trans q2)
          have hB2 := B2.size
          have B9 : Below w.heap.size w ((((W10.setCell ⟨W6.heap.size, 0, none⟩ (.int .i64 0)).setCell ⟨W6.heap.size, 1, none⟩ (.int .i64 0)).setCell ⟨W6.heap.size, 2, none⟩ (.map none)).setCell ⟨W6.heap.size, 3, none⟩ (.int .i64 0)) := ((((below_then B2 G10).setCell (by simp; omega) _).setCell (by simp; omega) _).setCell (by simp; omega) _).setCell (by simp; omega) _
          have hd : (believeE b s [x] != 0) = true := by simpa using hE.out
          clear z0 z1 z2 nS BS q0 hB2 q1
          have r0 := Joins.cell_of_block q2 0
          have r1 := Joins.cell_of_block q2 1
          have k0 := Joins.unfrozen_of_block q2 0
          have k1 := Joins.unfrozen_of_block q2 1
          have zq := size_of_block q2
          have HP := Lib.hid (put2 (.int .i64 0) (.int .i64 0) q2)
          have HR := Lib.hid hR
          clear hR
          clear q2
          go_wp2_with fail
          generalize (((W10.setCell ⟨W6.heap.size, 0, none⟩ (.int .i64 0)).setCell ⟨W6.heap.size, 1, none⟩ (.int .i64 0)).setCell ⟨W6.heap.size, 2, none⟩ (.map none)).setCell ⟨W6.heap.size, 3, none⟩ (.int .i64 0) = W9 at m9 B9 HP r0 r1 k0 k1 zq ⊢
          refine bodyPost_ret (v := .tuple #[spV ⟨0, 0⟩, .int .i64 (believeE b s [x])]) ?_ rfl ⟨by rw [HR.out], (B9.setCell (by show w.heap.size ≤ w.heap.size + 1 + 1; omega) _).setCell (by show w.heap.size ≤ w.heap.size + 1 + 1; omega) _⟩
          simp [spV, results, Try.results60, go_sem, HP.out.1, HP.out.2]
      · have nB := heap_alloc_new W4 (.cells #[.int .i64 0, .int .i64 0, .map none, .int .i64 0] 128)
        have aB := below_alloc W4 (.cells #[.int .i64 0, .int .i64 0, .map none, .int .i64 0] 128)
        have hBn : W2.heap.size ≤ W4.heap.size := G4.size
        refine ⟨aB, fun W5 hu => ?_⟩
        replace nB := (hu.block _ (size_of_block nB)).trans nB
        replace nT := ((below_then aB hu).block _ (size_of_block nT)).trans nT
        have G5 := below_then G4 (below_then aB hu)
        clear hu aB
        go_simp
        refine (CL _ _ (rts1 nT)).mono ?_
        clear nT
        rintro e W6 ⟨rfl, hb⟩
        refine ⟨hb, fun W7 hu => ?_⟩
        replace hb := below_then hb hu
        replace nB := (hb.block _ (size_of_block nB)).trans nB
        have G7 := below_then G5 hb
        clear hb hu
        go_simp
        have nS := heap_alloc_new W7 (.cells #[.int .i64 x] 25)
        have aS := below_alloc W7 (.cells #[.int .i64 x] 25)
        refine ⟨aS, fun W8 hu => ?_⟩
        replace nS := (hu.block _ (size_of_block nS)).trans nS
        replace nB := ((below_then aS hu).block _ (size_of_block nB)).trans nB
        have G8 := below_then G7 (below_then aS hu)
        clear hu aS
        go_simp
        refine (believed_c b s [x] _ _ (ints1 nS)).mono ?_
        rintro e W9 ⟨hp, hb⟩
        unfold BelPost at hp
        rw [if_neg hE.out] at hp
        subst hp
        refine ⟨hb, fun W10 hu => ?_⟩
        replace hb := below_then hb hu
        replace nB := (hb.block _ (size_of_block nB)).trans nB
        replace nS := (hb.block _ (size_of_block nS)).trans nS
        have G10 := below_then G8 hb
        clear hb hu
        refine ⟨_, fun _ => rfl, ?_⟩
        go_simp
        have f0 := Joins.unfrozen_of_block nB 0
        have f1 := Joins.unfrozen_of_block nB 1
        have f2 := Joins.unfrozen_of_block nB 2
        have f3 := Joins.unfrozen_of_block nB 3
        have g0 := Joins.cell_of_block nB 0
        have g1 := Joins.cell_of_block nB 1
        have g2 := Joins.cell_of_block nB 2
        have g3 := Joins.cell_of_block nB 3
        have hz := size_of_block nB
        have m9 := put4 (.int .i64 0) (.int .i64 0) (.map none) (.int .i64 0) nB
        have BS : Below W4.heap.size W10 ((((W10.setCell ⟨W4.heap.size, 0, none⟩ (.int .i64 0)).setCell ⟨W4.heap.size, 1, none⟩ (.int .i64 0)).setCell ⟨W4.heap.size, 2, none⟩ (.map none)).setCell ⟨W4.heap.size, 3, none⟩ (.int .i64 0)) := ((((Below.refl _ _).setCell (by simp) _).setCell (by simp) _).setCell (by simp) _).setCell (by simp) _
        replace q1 := (BS.block _ (show w.heap.size + 1 < W4.heap.size by omega)).trans ((G10.block _ z1).trans q1)
        replace q2 := (BS.block _ (show w.heap.size + 1 + 1 < W4.heap.size by omega)).trans ((G10.block _ z2).trans q2)
        have hB2 := B2.size
        have B9 : Below w.heap.size w ((((W10.setCell ⟨W4.heap.size, 0, none⟩ (.int .i64 0)).setCell ⟨W4.heap.size, 1, none⟩ (.int .i64 0)).setCell ⟨W4.heap.size, 2, none⟩ (.map none)).setCell ⟨W4.heap.size, 3, none⟩ (.int .i64 0)) := ((((below_then B2 G10).setCell (by simp; omega) _).setCell (by simp; omega) _).setCell (by simp; omega) _).setCell (by simp; omega) _
        have hd : (believeE b s [x] != 0) = true := by simpa using hE.out
        clear z0 z1 z2 nS BS q0 hB2 q1
        have r0 := Joins.cell_of_block q2 0
        have r1 := Joins.cell_of_block q2 1
        have k0 := Joins.unfrozen_of_block q2 0
        have k1 := Joins.unfrozen_of_block q2 1
        have zq := size_of_block q2
        have HP := Lib.hid (put2 (.int .i64 0) (.int .i64 0) q2)
        have HR := Lib.hid hR
        clear hR
        clear q2
        go_wp2_with fail
        generalize (((W10.setCell ⟨W4.heap.size, 0, none⟩ (.int .i64 0)).setCell ⟨W4.heap.size, 1, none⟩ (.int .i64 0)).setCell ⟨W4.heap.size, 2, none⟩ (.map none)).setCell ⟨W4.heap.size, 3, none⟩ (.int .i64 0) = W9 at m9 B9 HP r0 r1 k0 k1 zq ⊢
        refine bodyPost_ret (v := .tuple #[spV ⟨0, 0⟩, .int .i64 (believeE b s [x])]) ?_ rfl ⟨by rw [HR.out], (B9.setCell (by show w.heap.size ≤ w.heap.size + 1 + 1; omega) _).setCell (by show w.heap.size ≤ w.heap.size + 1 + 1; omega) _⟩
        simp [spV, results, Try.results60, go_sem, HP.out.1, HP.out.2]
    · go_simp
      have nB := heap_alloc_new W3 (.cells #[.int .i64 0, .int .i64 0, .map none, .int .i64 0] 128)
      have aB := below_alloc W3 (.cells #[.int .i64 0, .int .i64 0, .map none, .int .i64 0] 128)
      have hBn : W2.heap.size ≤ W3.heap.size := G3.size
      refine ⟨aB, fun W4 hu => ?_⟩
      replace nB := (hu.block _ (size_of_block nB)).trans nB
      have G4 := below_then G3 (below_then aB hu)
      clear hu aB
      go_simp
      have nT := heap_alloc_new W4 (.cells #[.int .i64 r.num, .int .i64 r.den] 53)
      have aT := below_alloc W4 (.cells #[.int .i64 r.num, .int .i64 r.den] 53)
      refine ⟨aT, fun W5 hu => ?_⟩
      replace nT := (hu.block _ (size_of_block nT)).trans nT
      replace nB := ((below_then aT hu).block _ (size_of_block nB)).trans nB
      have G5 := below_then G4 (below_then aT hu)
      clear hu aT
      go_simp
      refine (CL _ _ (rts1 nT)).mono ?_
      clear nT
      rintro e W6 ⟨rfl, hb⟩
      refine ⟨hb, fun W7 hu => ?_⟩
      replace hb := below_then hb hu
      replace nB := (hb.block _ (size_of_block nB)).trans nB
      have G7 := below_then G5 hb
      clear hb hu
      go_simp
      have nS := heap_alloc_new W7 (.cells #[.int .i64 x] 25)
      have aS := below_alloc W7 (.cells #[.int .i64 x] 25)
      refine ⟨aS, fun W8 hu => ?_⟩
      replace nS := (hu.block _ (size_of_block nS)).trans nS
      replace nB := ((below_then aS hu).block _ (size_of_block nB)).trans nB
      have G8 := below_then G7 (below_then aS hu)
      clear hu aS
      go_simp
      refine (believed_c b s [x] _ _ (ints1 nS)).mono ?_
      rintro e W9 ⟨hp, hb⟩
      unfold BelPost at hp
      rw [if_neg hE.out] at hp
      subst hp
      refine ⟨hb, fun W10 hu => ?_⟩
      replace hb := below_then hb hu
      replace nB := (hb.block _ (size_of_block nB)).trans nB
      replace nS := (hb.block _ (size_of_block nS)).trans nS
      have G10 := below_then G8 hb
      clear hb hu
      refine ⟨_, fun _ => rfl, ?_⟩
      go_simp
      have f0 := Joins.unfrozen_of_block nB 0
      have f1 := Joins.unfrozen_of_block nB 1
      have f2 := Joins.unfrozen_of_block nB 2
      have f3 := Joins.unfrozen_of_block nB 3
      have g0 := Joins.cell_of_block nB 0
      have g1 := Joins.cell_of_block nB 1
      have g2 := Joins.cell_of_block nB 2
      have g3 := Joins.cell_of_block nB 3
      have hz := size_of_block nB
      have m9 := put4 (.int .i64 0) (.int .i64 0) (.map none) (.int .i64 0) nB
      have BS : Below W3.heap.size W10 ((((W10.setCell ⟨W3.heap.size, 0, none⟩ (.int .i64 0)).setCell ⟨W3.heap.size, 1, none⟩ (.int .i64 0)).setCell ⟨W3.heap.size, 2, none⟩ (.map none)).setCell ⟨W3.heap.size, 3, none⟩ (.int .i64 0)) := ((((Below.refl _ _).setCell (by simp) _).setCell (by simp) _).setCell (by simp) _).setCell (by simp) _
      replace q1 := (BS.block _ (show w.heap.size + 1 < W3.heap.size by omega)).trans ((G10.block _ z1).trans q1)
      replace q2 := (BS.block _ (show w.heap.size + 1 + 1 < W3.heap.size by omega)).trans ((G10.block _ z2).trans q2)
      have hB2 := B2.size
      have B9 : Below w.heap.size w ((((W10.setCell ⟨W3.heap.size, 0, none⟩ (.int .i64 0)).setCell ⟨W3.heap.size, 1, none⟩ (.int .i64 0)).setCell ⟨W3.heap.size, 2, none⟩ (.map none)).setCell ⟨W3.heap.size, 3, none⟩ (.int .i64 0)) := ((((below_then B2 G10).setCell (by simp; omega) _).setCell (by simp; omega) _).setCell (by simp; omega) _).setCell (by simp; omega) _
      have hd : (believeE b s [x] != 0) = true := by simpa using hE.out
      clear z0 z1 z2 nS BS q0 hB2 q1
      have r0 := Joins.cell_of_block q2 0
      have r1 := Joins.cell_of_block q2 1
      have k0 := Joins.unfrozen_of_block q2 0
      have k1 := Joins.unfrozen_of_block q2 1
      have zq := size_of_block q2
      have HP := Lib.hid (put2 (.int .i64 0) (.int .i64 0) q2)
      have HR := Lib.hid hR
      clear hR
      clear q2
      go_wp2_with fail
      generalize (((W10.setCell ⟨W3.heap.size, 0, none⟩ (.int .i64 0)).setCell ⟨W3.heap.size, 1, none⟩ (.int .i64 0)).setCell ⟨W3.heap.size, 2, none⟩ (.map none)).setCell ⟨W3.heap.size, 3, none⟩ (.int .i64 0) = W9 at m9 B9 HP r0 r1 k0 k1 zq ⊢
      refine bodyPost_ret (v := .tuple #[spV ⟨0, 0⟩, .int .i64 (believeE b s [x])]) ?_ rfl ⟨by rw [HR.out], (B9.setCell (by show w.heap.size ≤ w.heap.size + 1 + 1; omega) _).setCell (by show w.heap.size ≤ w.heap.size + 1 + 1; omega) _⟩
      simp [spV, results, Try.results60, go_sem, HP.out.1, HP.out.2]
end Go.Proofs.Ytaaeipjnhjgjdaa
/- The proof of a shortest span, by package sample. -/
namespace Go.Proofs.Ytaaeipjnhjgjdaa
open Go Go.RowKit Go.Shelf

set_option maxRecDepth 100000 in
set_option maxHeartbeats 2000000 in
theorem CheckShortest_c (b : Bt) (s : Int) (r : Rt) (p : Sp) (w : World) : Calls Try.prog 62 #[btV b, .int .i64 s, rtV r, spV p] w fun e w' => e = .returned (.int .i64 (checkShortI b s r p)) ∧ Below w.heap.size w w' := by
  obtain ⟨q0, q1, q2, qs, qb⟩ := three_new w (.cells (btC b) 34) (.cells #[.int .i64 r.num, .int .i64 r.den] 53) (.cells #[.int .i64 p.lo, .int .i64 p.hi] 31)
  have neSp := Try.neSp
  have CS := Shortest_c b s r
  have HD := Lib.hid (show checkShortI b s r p = if (shortestR b s r).2 ≠ 0 then (shortestR b s r).2 else if (shortestR b s r).1.lo = p.lo ∧ (shortestR b s r).1.hi = p.hi then 0 else 8 from rfl)
  generalize hS : shortestR b s r = S at CS HD
  obtain ⟨X, y⟩ := S
  unfold btC at q0 q1 q2 qs qb
  unfold btV rtV spV at CS
  unfold btV rtV spV
  clear hS
  dsimp only at CS
  go_enter Try.func62, Try.ntmps62
  go_wp2_with fail
  have QS := Lib.hid qs
  clear qs
  generalize ((w.alloc _).alloc _).alloc _ = W1 at q0 q1 q2 QS qb ⊢
  refine (CS W1).mono ?_
  rintro e w1 ⟨rfl, hb1⟩
  replace q2 := (hb1.block _ (size_of_block q2)).trans q2
  have B1 := below_then qb hb1
  have nB := heap_alloc_new w1 (.cells #[.int .i64 X.lo, .int .i64 X.hi] 31)
  have aB := below_alloc w1 (.cells #[.int .i64 X.lo, .int .i64 X.hi] 31)
  replace q2 := (aB.block _ (size_of_block q2)).trans q2
  have B2 := below_then B1 aB
  have s0 := Joins.cell_of_block q2 0
  have s1 := Joins.cell_of_block q2 1
  have x0 := Joins.cell_of_block nB 0
  have x1 := Joins.cell_of_block nB 1
  clear hb1 qb q0 q1 CS B1 aB
  by_cases h : y = 0
  · have hd : (y != 0) = false := by simpa using h
    have HY := Lib.hid h
    clear h
    by_cases h2 : (p.lo == X.lo && p.hi == X.hi) = true
    · have HR := Lib.hid (show checkShortI b s r p = 0 by
        have e1 := HY.out
        simp only [Bool.and_eq_true, beq_iff_eq] at h2
        rw [HD.out, if_neg (by simpa using e1), if_pos ⟨h2.1.symm, h2.2.symm⟩])
      go_wp2_with fail
      go_ret
      exact ⟨by rw [HR.out]; rfl, B2⟩
    · have h3 : (p.lo == X.lo && p.hi == X.hi) = false := by simpa using h2
      have HR := Lib.hid (show checkShortI b s r p = 8 by
        have e1 := HY.out
        rw [HD.out, if_neg (by simpa using e1), if_neg]
        intro ⟨a, c⟩
        exact h2 (by rw [a, c]; simp))
      clear h2
      go_wp2_with fail
      go_ret
      exact ⟨by rw [HR.out]; rfl, B2⟩
  · have hd : (y != 0) = true := by simpa using h
    have HR := Lib.hid (show checkShortI b s r p = y by rw [HD.out, if_pos h])
    clear h
    go_wp2_with fail
    go_ret
    exact ⟨by rw [HR.out]; rfl, B2⟩
end Go.Proofs.Ytaaeipjnhjgjdaa
/- A batch of which more was seen, by package sample. -/
namespace Go.Proofs.Ytaaeipjnhjgjdaa
open Go Go.RowKit Go.Shelf

set_option maxRecDepth 100000 in
set_option maxHeartbeats 2000000 in
theorem add_c (b : Bt) (s : K3) (q : Nat) (w : World) (hq : w.heap[q]? = some (.cells (btC b) 147)) (h1 : 0 ≤ b.s.a ∧ b.s.a ≤ 50 ∧ 0 ≤ b.s.b ∧ b.s.b ≤ 50 ∧ 0 ≤ b.s.c ∧ b.s.c ≤ 50) (h2 : 0 ≤ s.a ∧ s.a ≤ 50 ∧ 0 ≤ s.b ∧ s.b ≤ 50 ∧ 0 ≤ s.c ∧ s.c ≤ 50) :
    Calls Try.prog 106 #[.pointer (some ⟨q, 0, none⟩), k3V s] w fun e w' => (∃ v, e = .returned v) ∧ w'.heap[q]? = some (.cells (btC (addB b s)) 147) ∧ Below q w w' := by
  obtain ⟨a1, a2, a3, a4, a5, a6⟩ := h1
  obtain ⟨c1, c2, c3, c4, c5, c6⟩ := h2
  have hz := size_of_block hq
  have hq1 : (w.alloc (.cells #[.int .i64 s.a, .int .i64 s.b, .int .i64 s.c] 23)).heap[q]? = some (.cells (btC (addP b s 0)) 147) := (Below.heap_alloc _ _ _ (by omega)).trans hq
  have hB0 : Below q w (w.alloc (.cells #[.int .i64 s.a, .int .i64 s.b, .int .i64 s.c] 23)) := (below_alloc _ _).mono (by omega)
  unfold k3V
  go_enter Try.func106, Try.ntmps106
  go_wp2_with fail
  go_loopw [7] (fun i wr => ∃ j : Nat, j ≤ 3 ∧ i = .int .i64 j ∧ wr.heap[q]? = some (.cells (btC (addP b s j)) 147) ∧ Below q w wr) (fun i _ => 3 - (intOf i).toNat)
  case atStart => exact ⟨0, by omega, rfl, hq1, hB0⟩
  case round =>
    clear hq1 hB0
    obtain ⟨j, hj, rfl, hyb, hB⟩ := hrel
    have hsz := size_of_block hyb
    have hj4 : j = 0 ∨ j = 1 ∨ j = 2 ∨ j = 3 := by omega
    rcases hj4 with rfl | rfl | rfl | rfl
    · have u0 : wr.cell? ⟨q, 1, none⟩ = some (.int .i64 b.s.a) := Joins.cell_of_block hyb 1
      go_wp2_with fail
      refine wp_region_grown_tail 13 (by kernel_rfl) (by kernel_rfl) fun hcg => ?_
      simp only [List.take_succ_cons, List.take_zero, List.drop_succ_cons, List.drop_zero]
      repeat (go_big_quiet_step (fail))
      refine wpQuiet_nil ?_
      intro _ hw'
      obtain ⟨g2, hw''⟩ := hw'
      subst hw''
      have zb := (g2.b.block q hsz).trans hyb
      have hBg := hB.trans (g2.b.mono (by omega))
      have v0 : g2.val.cell? ⟨q, 1, none⟩ = some (.int .i64 b.s.a) := Joins.cell_of_block zb 1
      have x0 := Joins.unfrozen_of_block zb 1
      have zn := Joins.block_setCell (i := 1) zb (.int .i64 (b.s.a + s.a))
      have hBn := hBg.setCell (p := ⟨q, 1, none⟩) (Nat.le_refl _) (.int .i64 (b.s.a + s.a))
      clear hcg zb hBg
      go_wp2_with fail
      go_roundw
      case rel => exact ⟨1, by omega, by go_num, zn, hBn⟩
      case measure => simp [intOf]
    · have u0 : wr.cell? ⟨q, 2, none⟩ = some (.int .i64 b.s.b) := Joins.cell_of_block hyb 2
      go_wp2_with fail
      refine wp_region_grown_tail 13 (by kernel_rfl) (by kernel_rfl) fun hcg => ?_
      simp only [List.take_succ_cons, List.take_zero, List.drop_succ_cons, List.drop_zero]
      repeat (go_big_quiet_step (fail))
      refine wpQuiet_nil ?_
      intro _ hw'
      obtain ⟨g2, hw''⟩ := hw'
      subst hw''
      have zb := (g2.b.block q hsz).trans hyb
      have hBg := hB.trans (g2.b.mono (by omega))
      have v0 : g2.val.cell? ⟨q, 2, none⟩ = some (.int .i64 b.s.b) := Joins.cell_of_block zb 2
      have x0 := Joins.unfrozen_of_block zb 2
      have zn := Joins.block_setCell (i := 2) zb (.int .i64 (b.s.b + s.b))
      have hBn := hBg.setCell (p := ⟨q, 2, none⟩) (Nat.le_refl _) (.int .i64 (b.s.b + s.b))
      clear hcg zb hBg
      go_wp2_with fail
      go_roundw
      case rel => exact ⟨2, by omega, by go_num, zn, hBn⟩
      case measure => simp [intOf]
    · have u0 : wr.cell? ⟨q, 3, none⟩ = some (.int .i64 b.s.c) := Joins.cell_of_block hyb 3
      go_wp2_with fail
      refine wp_region_grown_tail 13 (by kernel_rfl) (by kernel_rfl) fun hcg => ?_
      simp only [List.take_succ_cons, List.take_zero, List.drop_succ_cons, List.drop_zero]
      repeat (go_big_quiet_step (fail))
      refine wpQuiet_nil ?_
      intro _ hw'
      obtain ⟨g2, hw''⟩ := hw'
      subst hw''
      have zb := (g2.b.block q hsz).trans hyb
      have hBg := hB.trans (g2.b.mono (by omega))
      have v0 : g2.val.cell? ⟨q, 3, none⟩ = some (.int .i64 b.s.c) := Joins.cell_of_block zb 3
      have x0 := Joins.unfrozen_of_block zb 3
      have zn := Joins.block_setCell (i := 3) zb (.int .i64 (b.s.c + s.c))
      have hBn := hBg.setCell (p := ⟨q, 3, none⟩) (Nat.le_refl _) (.int .i64 (b.s.c + s.c))
      clear hcg zb hBg
      go_wp2_with fail
      go_roundw
      case rel => exact ⟨3, by omega, by go_num, zn, hBn⟩
      case measure => simp [intOf]
    · go_wp2_with fail
      refine bodyPost_end (results_none rfl _ _ _) rfl ⟨⟨_, rfl⟩, hyb, hB⟩
set_option maxRecDepth 100000 in
set_option maxHeartbeats 4000000 in
theorem More_c (b : Bt) (s : K3) (w : World) : Calls Try.prog 55 #[btV b, k3V s] w fun e w' => e = .returned (.tuple #[btV (moreR b s).1, .int .i64 (moreR b s).2]) ∧ Below w.heap.size w w' := by
  obtain ⟨q0, q1, q2, qs, qb⟩ := three_new w (.cells (btC b) 34) (.cells #[.int .i64 s.a, .int .i64 s.b, .int .i64 s.c] 23) (.cells #[.int .i64 0, .int .i64 0, .int .i64 0, .int .i64 0, .int .i64 0, .int .i64 0, .int .i64 0, .int .i64 0, .int .i64 0, .int .i64 0] 34)
  unfold btC at q0 q1 q2 qs qb
  have HE := Lib.hid (show moreE b s = if checkB b ≠ 0 then checkB b else if sortedB s = false then 1 else if b.n - allI b.s < allI s then 3 else checkB (addB b s) from rfl)
  have HF := Lib.hid (show moreR b s = if moreE b s = 0 then (addB b s, 0) else (zeroBt, moreE b s) from rfl)
  unfold btV k3V
  by_cases h : checkB b = 0
  · have hd : (checkB b != 0) = false := by simpa using h
    have hr := right_n (check_ok h).1
    obtain ⟨n1, n2, n3, a1, a2, a3, n4, n5⟩ := hr
    have HK := Lib.hid h
    clear h n3
    rcases Bool.eq_false_or_eq_true (sortedB s) with h2 | h2
    · have HS := Lib.hid h2
      simp only [sortedB, Bool.and_eq_true, decide_eq_true_eq] at h2
      obtain ⟨⟨c1, c2⟩, c3⟩ := h2
      have hup : upToB s (b.n - (b.s.a + b.s.b + b.s.c)) = !decide (b.n - allI b.s < allI s) := by
        rw [Bool.eq_iff_iff]
        have hss : allI s = min s.a 51 + min s.b 51 + min s.c 51 := rfl
        simp only [upToB, inI, Bool.and_eq_true, decide_eq_true_eq, Bool.not_eq_true', decide_eq_false_iff_not]
        omega
      by_cases h3 : b.n - allI b.s < allI s
      · have hu : upToB s (b.n - (b.s.a + b.s.b + b.s.c)) = false := by rw [hup, decide_eq_true h3]; rfl
        have HM := Lib.hid (show moreR b s = (zeroBt, 3) by
          have e1 := HK.out
          have e2 := HS.out
          have hme : moreE b s = 3 := by rw [HE.out, if_neg (by simpa using e1), if_neg (by rw [e2]; decide), if_pos h3]
          rw [HF.out, hme]; rfl)
        clear h3 hup
        go_enter Try.func55, Try.ntmps55
        go_wp2_with fail
        have QS := Lib.hid qs
        clear qs
        generalize ((w.alloc _).alloc _).alloc _ = W1 at q0 q1 q2 QS qb ⊢
        refine (Check_c b W1).mono ?_
        rintro e W2 ⟨rfl, hb2⟩
        replace q0 := (hb2.block _ (size_of_block q0)).trans q0
        replace q1 := (hb2.block _ (size_of_block q1)).trans q1
        replace q2 := (hb2.block _ (size_of_block q2)).trans q2
        have BB := below_then qb hb2
        clear hb2 qb
        rw [HK.out]
        have g0 := Joins.cell_of_block q1 0
        have g1 := Joins.cell_of_block q1 1
        have g2 := Joins.cell_of_block q1 2
        go_wp2_with fail
        clear g0 g1 g2
        refine (sampleP_c s W2).mono ?_
        rintro e W3 ⟨rfl, hb3⟩
        replace q0 := (hb3.block _ (size_of_block q0)).trans q0
        replace q1 := (hb3.block _ (size_of_block q1)).trans q1
        replace q2 := (hb3.block _ (size_of_block q2)).trans q2
        replace BB := below_then BB hb3
        clear hb3
        rw [HS.out]
        have g0 := Joins.cell_of_block q1 0
        have g1 := Joins.cell_of_block q1 1
        have g2 := Joins.cell_of_block q1 2
        have e0 := Joins.cell_of_block q0 0
        have e1 := Joins.cell_of_block q0 1
        have e2 := Joins.cell_of_block q0 2
        have e3 := Joins.cell_of_block q0 3
        have z0 := size_of_block q0
        have z1 := size_of_block q1
        go_wp2_with fail
        refine wp_region_grown (by kernel_rfl) (by kernel_rfl) fun hcg => ?_
        repeat (go_big_quiet_step (first | (go_at_call 103; exact Calls.grown (countP_c b.s _ (by omega))) | (go_at_call 86; exact Calls.grown (upToP_c s _ _ (by omega) (by omega)))))
        refine wpQuiet_nil ?_
        intro _ hw'
        obtain ⟨g, hw''⟩ := hw'
        subst hw''
        have hb4 := g.b
        generalize g.val = W4 at hb4 ⊢
        clear hcg g0 g1 g2 e0 e1 e2 e3 z0 z1
        replace q0 := (hb4.block _ (size_of_block q0)).trans q0
        replace q1 := (hb4.block _ (size_of_block q1)).trans q1
        replace q2 := (hb4.block _ (size_of_block q2)).trans q2
        replace BB := below_then BB hb4
        clear hb4
        rw [hu]
        have HR := Lib.hid (fun j : Nat => cell_setRow_same _ (w.heap.size + 1 + 1) j _ #[.int .i64 0, .int .i64 0, .int .i64 0, .int .i64 0, .int .i64 0, .int .i64 0, .int .i64 0, .int .i64 0, .int .i64 0, .int .i64 0] _ _ q2)
        have Q2 := q2
        clear q2
        go_wp2_with (refine wpList_store_rowTo rfl 34 _ _ rfl rfl (w.heap.size + 1 + 1) #[.int .i64 0, .int .i64 0, .int .i64 0, .int .i64 0, .int .i64 0, .int .i64 0, .int .i64 0, .int .i64 0, .int .i64 0, .int .i64 0] rfl rfl 34 _ Q2 (by kernel_rfl) rfl (by kernel_rfl) ?_)
        refine bodyPost_ret (v := .tuple #[.agg #[.int .i64 0, .int .i64 0, .int .i64 0, .int .i64 0, .int .i64 0, .int .i64 0, .int .i64 0, .int .i64 0, .int .i64 0, .int .i64 0], .int .i64 3]) ?_ rfl ⟨by rw [HM.out]; rfl, below_setRow BB (by omega) _⟩
        simp [results, Try.results55, go_sem, HR.out]
      · have hu : upToB s (b.n - (b.s.a + b.s.b + b.s.c)) = true := by rw [hup, decide_eq_false h3]; rfl
        have HM := Lib.hid (show moreR b s = if checkB (addB b s) = 0 then (addB b s, 0) else (zeroBt, checkB (addB b s)) by
          have e1 := HK.out
          have e2 := HS.out
          have hme : moreE b s = checkB (addB b s) := by rw [HE.out, if_neg (by simpa using e1), if_neg (by rw [e2]; decide), if_neg h3]
          rw [HF.out, hme])
        have hss : allI s = min s.a 51 + min s.b 51 + min s.c 51 := rfl
        have w1 : s.a ≤ 50 ∧ s.b ≤ 50 ∧ s.c ≤ 50 := by omega
        clear h3 hup hss
        go_enter Try.func55, Try.ntmps55
        go_wp2_with fail
        have QS := Lib.hid qs
        clear qs
        generalize ((w.alloc _).alloc _).alloc _ = W1 at q0 q1 q2 QS qb ⊢
        refine (Check_c b W1).mono ?_
        rintro e W2 ⟨rfl, hb2⟩
        replace q0 := (hb2.block _ (size_of_block q0)).trans q0
        replace q1 := (hb2.block _ (size_of_block q1)).trans q1
        replace q2 := (hb2.block _ (size_of_block q2)).trans q2
        have BB := below_then qb hb2
        clear hb2 qb
        rw [HK.out]
        have g0 := Joins.cell_of_block q1 0
        have g1 := Joins.cell_of_block q1 1
        have g2 := Joins.cell_of_block q1 2
        go_wp2_with fail
        clear g0 g1 g2
        refine (sampleP_c s W2).mono ?_
        rintro e W3 ⟨rfl, hb3⟩
        replace q0 := (hb3.block _ (size_of_block q0)).trans q0
        replace q1 := (hb3.block _ (size_of_block q1)).trans q1
        replace q2 := (hb3.block _ (size_of_block q2)).trans q2
        replace BB := below_then BB hb3
        clear hb3
        rw [HS.out]
        have g0 := Joins.cell_of_block q1 0
        have g1 := Joins.cell_of_block q1 1
        have g2 := Joins.cell_of_block q1 2
        have e0 := Joins.cell_of_block q0 0
        have e1 := Joins.cell_of_block q0 1
        have e2 := Joins.cell_of_block q0 2
        have e3 := Joins.cell_of_block q0 3
        have z0 := size_of_block q0
        have z1 := size_of_block q1
        go_wp2_with fail
        refine wp_region_grown (by kernel_rfl) (by kernel_rfl) fun hcg => ?_
        repeat (go_big_quiet_step (first | (go_at_call 103; exact Calls.grown (countP_c b.s _ (by omega))) | (go_at_call 86; exact Calls.grown (upToP_c s _ _ (by omega) (by omega)))))
        refine wpQuiet_nil ?_
        intro _ hw'
        obtain ⟨g, hw''⟩ := hw'
        subst hw''
        have hb4 := g.b
        generalize g.val = W4 at hb4 ⊢
        clear hcg g0 g1 g2 e0 e1 e2 e3 z0 z1
        replace q0 := (hb4.block _ (size_of_block q0)).trans q0
        replace q1 := (hb4.block _ (size_of_block q1)).trans q1
        replace q2 := (hb4.block _ (size_of_block q2)).trans q2
        replace BB := below_then BB hb4
        clear hb4
        rw [hu]
        have g0 := Joins.cell_of_block q0 0
        have g1 := Joins.cell_of_block q0 1
        have g2 := Joins.cell_of_block q0 2
        have g3 := Joins.cell_of_block q0 3
        have g4 := Joins.cell_of_block q0 4
        have g5 := Joins.cell_of_block q0 5
        have g6 := Joins.cell_of_block q0 6
        have g7 := Joins.cell_of_block q0 7
        have g8 := Joins.cell_of_block q0 8
        have g9 := Joins.cell_of_block q0 9
        have nS := heap_alloc_new W4 (.cells #[.int .i64 b.n, .int .i64 b.s.a, .int .i64 b.s.b, .int .i64 b.s.c, .int .i64 b.k0.lo, .int .i64 b.k0.hi, .int .i64 b.k1.lo, .int .i64 b.k1.hi, .int .i64 b.k2.lo, .int .i64 b.k2.hi] 147)
        have aS := below_alloc W4 (.cells #[.int .i64 b.n, .int .i64 b.s.a, .int .i64 b.s.b, .int .i64 b.s.c, .int .i64 b.k0.lo, .int .i64 b.k0.hi, .int .i64 b.k1.lo, .int .i64 b.k1.hi, .int .i64 b.k2.lo, .int .i64 b.k2.hi] 147)
        have z1 := size_of_block q1
        have z2 := size_of_block q2
        have BS := BB.size
        replace q1 := (aS.block _ z1).trans q1
        replace q2 := (aS.block _ z2).trans q2
        have g10 := Joins.cell_of_block q1 0
        have g11 := Joins.cell_of_block q1 1
        have g12 := Joins.cell_of_block q1 2
        go_wp2_with fail
        generalize W4.alloc (.cells #[.int .i64 b.n, .int .i64 b.s.a, .int .i64 b.s.b, .int .i64 b.s.c, .int .i64 b.k0.lo, .int .i64 b.k0.hi, .int .i64 b.k1.lo, .int .i64 b.k1.hi, .int .i64 b.k2.lo, .int .i64 b.k2.hi] 147) = W5 at nS aS q1 q2 g10 g11 g12 ⊢
        have AC := add_c b s W4.heap.size W5 nS (by omega) (by omega)
        unfold k3V at AC
        clear g10 g11 g12 nS q0 q1 hu
        clear g0 g1 g2 g3 g4 g5 g6 g7 g8 g9
        refine AC.mono ?_
        rintro e W6 ⟨⟨v, rfl⟩, hn6, hb6⟩
        have b56 := (aS.mono (Nat.le_refl _)).trans hb6
        replace q2 := (hb6.block _ z2).trans q2
        have zz := size_of_block hn6
        replace BB := below_then BB b56
        clear AC aS hb6 b56
        unfold btC addB at hn6
        try dsimp only at hn6
        have g0 := Joins.cell_of_block hn6 0
        have g1 := Joins.cell_of_block hn6 1
        have g2 := Joins.cell_of_block hn6 2
        have g3 := Joins.cell_of_block hn6 3
        have g4 := Joins.cell_of_block hn6 4
        have g5 := Joins.cell_of_block hn6 5
        have g6 := Joins.cell_of_block hn6 6
        have g7 := Joins.cell_of_block hn6 7
        have g8 := Joins.cell_of_block hn6 8
        have g9 := Joins.cell_of_block hn6 9
        go_wp2_with fail
        refine (Check_c (addB b s) W6).mono ?_
        rintro e W7 ⟨rfl, hb7⟩
        replace hn6 := (hb7.block _ zz).trans hn6
        replace zz := size_of_block hn6
        replace q2 := (hb7.block _ (size_of_block q2)).trans q2
        replace BB := below_then BB hb7
        clear hb7
        clear g0 g1 g2 g3 g4 g5 g6 g7 g8 g9
        by_cases he : checkB (addB b s) = 0
        · have hdd : (checkB (addB b s) != 0) = false := by simpa using he
          rw [if_pos he] at HM
          clear he
          have g0 := Joins.cell_of_block hn6 0
          have g1 := Joins.cell_of_block hn6 1
          have g2 := Joins.cell_of_block hn6 2
          have g3 := Joins.cell_of_block hn6 3
          have g4 := Joins.cell_of_block hn6 4
          have g5 := Joins.cell_of_block hn6 5
          have g6 := Joins.cell_of_block hn6 6
          have g7 := Joins.cell_of_block hn6 7
          have g8 := Joins.cell_of_block hn6 8
          have g9 := Joins.cell_of_block hn6 9
          have HR := Lib.hid (fun j : Nat => cell_setRow_same _ (w.heap.size + 1 + 1) j _ #[.int .i64 b.n, .int .i64 (b.s.a + s.a), .int .i64 (b.s.b + s.b), .int .i64 (b.s.c + s.c), .int .i64 b.k0.lo, .int .i64 b.k0.hi, .int .i64 b.k1.lo, .int .i64 b.k1.hi, .int .i64 b.k2.lo, .int .i64 b.k2.hi] _ _ q2)
          have Q2 := q2
          clear q2
          go_wp2_with (refine wpList_store_rowTo rfl 34 _ _ rfl rfl (w.heap.size + 1 + 1) #[.int .i64 b.n, .int .i64 (b.s.a + s.a), .int .i64 (b.s.b + s.b), .int .i64 (b.s.c + s.c), .int .i64 b.k0.lo, .int .i64 b.k0.hi, .int .i64 b.k1.lo, .int .i64 b.k1.hi, .int .i64 b.k2.lo, .int .i64 b.k2.hi] rfl rfl 34 _ Q2 (by kernel_rfl) rfl (by kernel_rfl) ?_)
          refine bodyPost_ret (v := .tuple #[.agg #[.int .i64 b.n, .int .i64 (b.s.a + s.a), .int .i64 (b.s.b + s.b), .int .i64 (b.s.c + s.c), .int .i64 b.k0.lo, .int .i64 b.k0.hi, .int .i64 b.k1.lo, .int .i64 b.k1.hi, .int .i64 b.k2.lo, .int .i64 b.k2.hi], .int .i64 0]) ?_ rfl ⟨by rw [HM.out]; rfl, below_setRow BB (by omega) _⟩
          simp [results, Try.results55, go_sem, HR.out]
        · have hdd : (checkB (addB b s) != 0) = true := by simpa using he
          rw [if_neg he] at HM
          clear he
          have HR := Lib.hid (fun j : Nat => cell_setRow_same _ (w.heap.size + 1 + 1) j _ #[.int .i64 0, .int .i64 0, .int .i64 0, .int .i64 0, .int .i64 0, .int .i64 0, .int .i64 0, .int .i64 0, .int .i64 0, .int .i64 0] _ _ q2)
          have Q2 := q2
          clear q2
          go_wp2_with (refine wpList_store_rowTo rfl 34 _ _ rfl rfl (w.heap.size + 1 + 1) #[.int .i64 0, .int .i64 0, .int .i64 0, .int .i64 0, .int .i64 0, .int .i64 0, .int .i64 0, .int .i64 0, .int .i64 0, .int .i64 0] rfl rfl 34 _ Q2 (by kernel_rfl) rfl (by kernel_rfl) ?_)
          refine bodyPost_ret (v := .tuple #[.agg #[.int .i64 0, .int .i64 0, .int .i64 0, .int .i64 0, .int .i64 0, .int .i64 0, .int .i64 0, .int .i64 0, .int .i64 0, .int .i64 0], .int .i64 (checkB (addB b s))]) ?_ rfl ⟨by rw [HM.out]; rfl, below_setRow BB (by omega) _⟩
          simp [results, Try.results55, go_sem, HR.out]
    · have HM := Lib.hid (show moreR b s = (zeroBt, 1) by
        have e1 := HK.out
        have hme : moreE b s = 1 := by rw [HE.out, if_neg (by simpa using e1), if_pos h2]
        rw [HF.out, hme]; rfl)
      have HS := Lib.hid h2
      clear h2
      go_enter Try.func55, Try.ntmps55
      go_wp2_with fail
      have QS := Lib.hid qs
      clear qs
      generalize ((w.alloc _).alloc _).alloc _ = W1 at q0 q1 q2 QS qb ⊢
      refine (Check_c b W1).mono ?_
      rintro e W2 ⟨rfl, hb2⟩
      replace q0 := (hb2.block _ (size_of_block q0)).trans q0
      replace q1 := (hb2.block _ (size_of_block q1)).trans q1
      replace q2 := (hb2.block _ (size_of_block q2)).trans q2
      have BB := below_then qb hb2
      clear hb2 qb
      rw [HK.out]
      have g0 := Joins.cell_of_block q1 0
      have g1 := Joins.cell_of_block q1 1
      have g2 := Joins.cell_of_block q1 2
      go_wp2_with fail
      clear g0 g1 g2
      refine (sampleP_c s W2).mono ?_
      rintro e W3 ⟨rfl, hb3⟩
      replace q0 := (hb3.block _ (size_of_block q0)).trans q0
      replace q1 := (hb3.block _ (size_of_block q1)).trans q1
      replace q2 := (hb3.block _ (size_of_block q2)).trans q2
      replace BB := below_then BB hb3
      clear hb3
      rw [HS.out]
      have HR := Lib.hid (fun j : Nat => cell_setRow_same _ (w.heap.size + 1 + 1) j _ #[.int .i64 0, .int .i64 0, .int .i64 0, .int .i64 0, .int .i64 0, .int .i64 0, .int .i64 0, .int .i64 0, .int .i64 0, .int .i64 0] _ _ q2)
      have Q2 := q2
      clear q2
      go_wp2_with (refine wpList_store_rowTo rfl 34 _ _ rfl rfl (w.heap.size + 1 + 1) #[.int .i64 0, .int .i64 0, .int .i64 0, .int .i64 0, .int .i64 0, .int .i64 0, .int .i64 0, .int .i64 0, .int .i64 0, .int .i64 0] rfl rfl 34 _ Q2 (by kernel_rfl) rfl (by kernel_rfl) ?_)
      refine bodyPost_ret (v := .tuple #[.agg #[.int .i64 0, .int .i64 0, .int .i64 0, .int .i64 0, .int .i64 0, .int .i64 0, .int .i64 0, .int .i64 0, .int .i64 0, .int .i64 0], .int .i64 1]) ?_ rfl ⟨by rw [HM.out]; rfl, below_setRow BB (by omega) _⟩
      simp [results, Try.results55, go_sem, HR.out]
  · have hd : (checkB b != 0) = true := by simpa using h
    have HM := Lib.hid (show moreR b s = (zeroBt, checkB b) by 
      have hme : moreE b s = checkB b := by rw [HE.out, if_pos h]
      rw [HF.out, hme, if_neg h])
    clear h
    go_enter Try.func55, Try.ntmps55
    go_wp2_with fail
    have QS := Lib.hid qs
    clear qs
    generalize ((w.alloc _).alloc _).alloc _ = W1 at q0 q1 q2 QS qb ⊢
    refine (Check_c b W1).mono ?_
    rintro e W2 ⟨rfl, hb2⟩
    replace q0 := (hb2.block _ (size_of_block q0)).trans q0
    replace q1 := (hb2.block _ (size_of_block q1)).trans q1
    replace q2 := (hb2.block _ (size_of_block q2)).trans q2
    have BB := below_then qb hb2
    clear hb2 qb
    have g := 0
    clear g
    have HR := Lib.hid (fun j : Nat => cell_setRow_same _ (w.heap.size + 1 + 1) j _ #[.int .i64 0, .int .i64 0, .int .i64 0, .int .i64 0, .int .i64 0, .int .i64 0, .int .i64 0, .int .i64 0, .int .i64 0, .int .i64 0] _ _ q2)
    have Q2 := q2
    clear q2
    go_wp2_with (refine wpList_store_rowTo rfl 34 _ _ rfl rfl (w.heap.size + 1 + 1) #[.int .i64 0, .int .i64 0, .int .i64 0, .int .i64 0, .int .i64 0, .int .i64 0, .int .i64 0, .int .i64 0, .int .i64 0, .int .i64 0] rfl rfl 34 _ Q2 (by kernel_rfl) rfl (by kernel_rfl) ?_)
    refine bodyPost_ret (v := .tuple #[.agg #[.int .i64 0, .int .i64 0, .int .i64 0, .int .i64 0, .int .i64 0, .int .i64 0, .int .i64 0, .int .i64 0, .int .i64 0, .int .i64 0], .int .i64 (checkB b)]) ?_ rfl ⟨by rw [HM.out]; rfl, below_setRow BB (by omega) _⟩
    simp [results, Try.results55, go_sem, HR.out]
end Go.Proofs.Ytaaeipjnhjgjdaa
