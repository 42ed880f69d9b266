/- Texts joined: SWeights. -/
import Derived.Test.YtnedcclmfokdnaaGreatJ15
import Derived.Test.YtnedcclmfokdnaaGreatJ19
namespace Go.Proofs.YtnedcclmfokdnaaGreat
open Go Go.RowKit Go.Shelf
def wtF (bs n : Nat) (f : Nat → Int) (j : Nat) : List Int := (List.range n).map fun i => if i < j then f (markN bs (i + 1)) - f (markN bs i) else 0
theorem wtF_len (bs n : Nat) (f : Nat → Int) (j : Nat) : (wtF bs n f j).length = n := by simp [wtF]
theorem wtF_zero (bs n : Nat) (f : Nat → Int) : wtF bs n f 0 = List.replicate n 0 := by
  unfold wtF
  apply List.ext_getElem?
  intro i
  rw [List.getElem?_map, List.getElem?_replicate]
  by_cases h : i < n
  · rw [List.getElem?_range h, if_pos h]; simp
  · rw [List.getElem?_eq_none (by simpa using h), if_neg h]; rfl
theorem wtF_next (bs n : Nat) (f : Nat → Int) {j : Nat} (h : j < n) : (wtF bs n f j).set j (f (markN bs (j + 1)) - f (markN bs j)) = wtF bs n f (j + 1) := by
  unfold wtF
  apply List.ext_getElem?
  intro i
  rw [List.getElem?_set, List.getElem?_map, List.getElem?_map]
  by_cases hi : i < n
  · rw [List.getElem?_range hi]
    by_cases e : j = i
    · subst e; rw [if_pos rfl, if_pos (by simpa using hi)]; simp
    · rw [if_neg e]
      by_cases h2 : i < j
      · simp [h2, show i < j + 1 by omega]
      · simp [h2, show ¬ i < j + 1 by omega]
  · rw [List.getElem?_eq_none (by simpa using hi)]
    by_cases e : j = i
    · omega
    · rw [if_neg e]; rfl
theorem Tryz.infoIntW : (Tryz.prog.info? 3).map (fun i => (i.zero, i.size, i.bytes)) = some (some (.int .i64 0), 1, 8) := by kernel_rfl
set_option maxRecDepth 100000 in
set_option maxHeartbeats 4000000 in
theorem weightsL_c (A : Option Addr) (n c bs : Nat) (f : Nat → Int) (w : World) (hb : bs ≤ 1000) (hbn : bs + n ≤ 40) (hf : ∀ i, i < 41 → -1152921504606846976 ≤ f i ∧ f i ≤ 1152921504606846976) :
    Calls Tryz.prog 150 #[.agg #[.slice A n c, .int .i64 bs], .agg (hgA f)] w fun e w' => ∃ u, e = .returned u ∧ w'.ownsRow w.heap.size 3 1 u (wtF bs n f n).length ((wtF bs n f n).map (Value.int .i64)) ∧ Below w.heap.size w w' := by
  obtain ⟨i0, hi, hz0, hz1, hz2⟩ := info_parts Tryz.infoIntW
  obtain ⟨q0, q1, qs, qb⟩ := two_new' w (.cells #[.slice A n c, .int .i64 bs] 130) (.cells (hgA f) 124)
  obtain ⟨w1, hmk, hown1, hg1⟩ := run_make_full (P := Tryz.prog) ((w.alloc (.cells #[.slice A n c, .int .i64 bs] 130)).alloc (.cells (hgA f) 124)) (w.heap.size + 1 + 1) 27 3 i0 (.int .i64 0) 1 Tryz.underlying27 hi hz0 hz1 .i64 .i64 n (by rw [hz2]; omega) (by unfold maxLen; omega) (by rw [qs]; omega)
  simp only [Nat.mul_one, World.size_alloc] at hmk hown1
  rw [show (Value.int .i64 0).cells = #[.int .i64 0] from rfl, toList_madeCells_one] at hown1
  have hO : w1.ownsRow (w.heap.size + 1 + 1) 3 1 (.slice (some ⟨w.heap.size + 1 + 1, 0, none⟩) n n) n ((wtF bs n f 0).map (Value.int .i64)) := by rw [wtF_zero, List.map_replicate]; exact hown1
  have y0 := (hg1.block _ (size_of_block q0) (fun e => by cases e)).trans q0
  have y1 := (hg1.block _ (size_of_block q1) (fun e => by cases e)).trans q1
  have hB : Below w.heap.size w w1 := qb.grown hg1 (by omega) (fun k e => by cases e)
  have HO := Lib.hid hO
  have HF := Lib.hid hf
  have HB := Lib.hid hB
  have Y0 := Lib.hid y0
  have Y1 := Lib.hid y1
  have c0 := Joins.cell_of_block y0 0
  clear hown1 hO hg1 hi hz0 hz1 hz2 hf y0 y1 hB qs qb
  have d0 := Joins.cell_of_block q0 0
  have zq := size_of_block q0
  go_enter Tryz.func150, Tryz.ntmps150
  go_wp2_with fail
  clear d0 zq q0 q1
  go_loopw [15] (fun i wr => ∃ j : Nat, i = .int .i64 j ∧ j ≤ n ∧ wr.ownsRow (w.heap.size + 1 + 1) 3 1 (.slice (some ⟨w.heap.size + 1 + 1, 0, none⟩) n n) n ((wtF bs n f j).map (Value.int .i64)) ∧ wr.heap[w.heap.size]? = some (.cells #[.slice A n c, .int .i64 bs] 130) ∧ wr.heap[w.heap.size + 1]? = some (.cells (hgA f) 124) ∧ Below w.heap.size w wr) (fun i _ => (n - intOf i).toNat)
  case atStart => exact ⟨0, rfl, by omega, HO.out, Y0.out, Y1.out, HB.out⟩
  case round =>
    clear c0
    obtain ⟨j, rfl, hj, hO, y0, y1, hbw⟩ := hrel
    have c0 := Joins.cell_of_block y0 0
    have c1 := Joins.cell_of_block y0 1
    by_cases hlt : j < n
    · have hP := fun W => partL_n (.slice A n c) bs j W hb (by omega)
      have ma : markN bs j < 41 := by unfold markN; split <;> omega
      have mc : markN bs (j + 1) < 41 := by unfold markN; split <;> omega
      have hnx := wtF_next bs n f hlt
      have ba := HF.out _ ma
      have bb := HF.out _ mc
      have HNX := Lib.hid hnx
      clear hnx
      generalize markN bs j = ma0 at hP ma ba HNX
      generalize markN bs (j + 1) = mb0 at hP mc bb HNX
      go_wp2_with fail
      refine (hP _).mono ?_
      rintro e W2 ⟨rfl, hb2⟩
      have p0 := heap_alloc_new W2 (.cells #[.int .i64 ma0, .int .i64 mb0] 160)
      have pb := below_alloc W2 (.cells #[.int .i64 ma0, .int .i64 mb0] 160)
      have B2 := below_then hb2 pb
      replace y0 := (B2.block _ (size_of_block y0)).trans y0
      replace y1 := (B2.block _ (size_of_block y1)).trans y1
      replace hO := own_later hO B2
      replace hbw := below_then hbw B2
      clear hP hb2 B2 pb c0 c1
      go_wp2_with fail
      generalize W2.alloc _ = W3 at p0 y0 y1 hO hbw ⊢
      have c0 := Joins.cell_of_block p0 0
      have c1 := Joins.cell_of_block p0 1
      have e0 := (Joins.cell_of_block y1 ma0).trans (hgA_at _ ma)
      have e1 := (Joins.cell_of_block y1 mb0).trans (hgA_at _ mc)
      have zp := size_of_block p0
      have zb := size_of_block y1
      refine wp_region_grown_tail 12 (by kernel_rfl) (by kernel_rfl) fun hcg => ?_
      simp only [List.take_succ_cons, List.take_zero, List.drop_succ_cons, List.drop_zero]
      repeat (go_big_quiet_step (fail))
      refine wpQuiet_nil ?_
      intro _ hw'
      obtain ⟨g, hw''⟩ := hw'
      subst hw''
      replace y0 := (g.b.block _ (size_of_block y0)).trans y0
      replace y1 := (g.b.block _ zb).trans y1
      replace hO := own_later hO g.b
      replace hbw := below_then hbw g.b
      generalize g.val = W4 at y0 y1 hO hbw ⊢
      clear hcg c0 c1 e0 e1 zb zp p0
      have cj : W4.cell? ⟨w.heap.size + 1 + 1, j, none⟩ = ((wtF bs n f j).map (Value.int .i64))[j]? := hO.cellAt j (by omega)
      rw [List.getElem?_map, List.getElem?_eq_getElem (by rw [wtF_len]; exact hlt)] at cj
      have fj := hO.frozenAt j
      obtain ⟨hO2, hg2⟩ := hO.stored j (.int .i64 (f mb0 - f ma0))
      rw [map_set_int, HNX.out] at hO2
      have r0 := (put_other (b := w.heap.size + 1 + 1) (i := j) (k := w.heap.size) (.int .i64 (f mb0 - f ma0)) (by omega)).trans y0
      have r1 := (put_other (b := w.heap.size + 1 + 1) (i := j) (k := w.heap.size + 1) (.int .i64 (f mb0 - f ma0)) (by omega)).trans y1
      have hbw3 : Below w.heap.size w (W4.setCell ⟨w.heap.size + 1 + 1, j, none⟩ (.int .i64 (f mb0 - f ma0))) := hbw.setCell (p := ⟨w.heap.size + 1 + 1, j, none⟩) (by simp; omega) _
      have HO2 := Lib.hid hO2
      have HBW := Lib.hid hbw3
      clear hO hO2 hg2 hbw hbw3 y0 y1
      go_wp2_with fail
      go_roundw
      case rel => exact ⟨j + 1, by push_cast; rfl, by omega, HO2.out, r0, r1, HBW.out⟩
      case measure => simp [intOf]; omega
    · obtain rfl : j = n := by omega
      go_wp2_with fail
      go_ret
      exact ⟨_, rfl, by rw [wtF_len]; exact Joins.ownsRow_le hO (by omega), hbw⟩
end Go.Proofs.YtnedcclmfokdnaaGreat
