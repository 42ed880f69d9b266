import Derived.Test.YtnedcclmfokdnaaGreatJ15
import Derived.Test.YtnedcclmfokdnaaGreatZSHgtE
namespace Go.Proofs.YtnedcclmfokdnaaGreat
open Go Go.RowKit Go.Shelf
def setN (f : Nat → Int) (i : Nat) (x : Int) : Nat → Int := fun j => if j = i then x else f j
theorem hgA_set (f : Nat → Int) (i : Nat) (x : Int) : (hgA f).setIfInBounds i (.int .i64 x) = hgA (setN f i x) := by
  unfold hgA hgL
  rw [List.setIfInBounds_toArray]
  congr 1
  apply List.ext_getElem?
  intro j
  rw [List.getElem?_set, List.getElem?_map, List.getElem?_map]
  by_cases hj : j < 41
  · rw [List.getElem?_range hj]
    by_cases e : i = j
    · subst e; rw [if_pos rfl, if_pos (by simpa using hj)]; simp [setN]
    · rw [if_neg e]; simp [setN, Ne.symm e]
  · rw [List.getElem?_eq_none (by simpa using hj)]
    by_cases e : i = j
    · rw [if_pos e, if_neg (by simpa using (by omega : ¬ i < 41))]; rfl
    · rw [if_neg e]; rfl
def pileF (bs : Nat) (tl : List Int) (f : Nat → Int) (j : Nat) : Nat → Int := fun v => if bs < v ∧ v ≤ bs + j then (tl.take (v - bs)).sum else f v
theorem pileF_zero (bs : Nat) (tl : List Int) (f : Nat → Int) : pileF bs tl f 0 = f := by
  funext v; unfold pileF; rw [if_neg (by omega)]
theorem pileF_next {bs : Nat} {tl : List Int} {f : Nat → Int} {j : Nat} {x : Int} (hx : tl[j]? = some x) : setN (pileF bs tl f j) (bs + (j + 1)) ((tl.take j).sum + x) = pileF bs tl f (j + 1) := by
  funext v
  unfold setN pileF
  by_cases e : v = bs + (j + 1)
  · subst e
    rw [if_pos rfl, if_pos (by omega), show bs + (j + 1) - bs = j + 1 by omega, sum_take_succ hx]
  · rw [if_neg e]
    by_cases h : bs < v ∧ v ≤ bs + j
    · rw [if_pos h, if_pos (by omega)]
    · rw [if_neg h, if_neg (by omega)]
theorem pileF_at {bs : Nat} {tl : List Int} {f : Nat → Int} (h0 : f 0 = 0) (j : Nat) : pileF bs tl f j (markN bs j) = (tl.take j).sum := by
  unfold pileF markN
  by_cases h : j = 0
  · subst h; rw [if_pos rfl, if_neg (by omega), h0]; rfl
  · rw [if_neg h, if_pos (by omega), show bs + j - bs = j by omega]
set_option maxRecDepth 100000 in
set_option maxHeartbeats 4000000 in
theorem pileL_c (A : Option Addr) (n c bs Bh B : Nat) (f : Nat → Int) (v : Value) (tl : List Int) (w : World) (hb : bs ≤ 1000) (hbn : bs + tl.length ≤ 40) (h0 : f 0 = 0) (hs : ∀ x ∈ tl, 0 ≤ x ∧ x ≤ 16777216) (hv : Ints w B v tl) (hB : B ≤ Bh) (hh : w.heap[Bh]? = some (.cells (hgA f) 124)) :
    Calls Tryz.prog 141 #[.agg #[.slice A n c, .int .i64 bs], .pointer (some ⟨Bh, 0, none⟩), v] w fun e w' => (∃ u, e = .returned u) ∧ w'.heap[Bh]? = some (.cells (hgA (pileF bs tl f tl.length)) 124) ∧ Below Bh w w' := by
  obtain ⟨Av, cv, rfl, _, hn, hat⟩ := hv.open_
  have HAT := Lib.hid hat
  have HS := Lib.hid hs
  have q0 := heap_alloc_new w (.cells #[.slice A n c, .int .i64 bs] 130)
  have qb := below_alloc w (.cells #[.slice A n c, .int .i64 bs] 130)
  have h1 := (qb.block _ (size_of_block hh)).trans hh
  have zh := size_of_block hh
  clear hat hs hv hh
  go_enter Tryz.func141, Tryz.ntmps141
  go_wp2_with fail
  generalize w.alloc _ = W1 at q0 qb h1 ⊢
  go_loopw [11] (fun i wr => ∃ j : Nat, i = .int .i64 j ∧ j ≤ tl.length ∧ Hid (wr.heap[Bh]? = some (.cells (hgA (pileF bs tl f j)) 124)) ∧ wr.heap[w.heap.size]? = some (.cells #[.slice A n c, .int .i64 bs] 130) ∧ Below Bh w wr) (fun i _ => (tl.length - intOf i).toNat)
  case atStart => exact ⟨0, rfl, by omega, Lib.hid (by rw [pileF_zero]; exact h1), q0, qb.mono (by omega)⟩
  case round =>
    clear h1 q0 qb
    obtain ⟨j, rfl, hj, hbl, hrow, hbw⟩ := hrel
    by_cases hlt : j < tl.length
    · obtain ⟨b, off, x, rfl, hbB, hx, y0⟩ := HAT.out j hlt
      have c0 := (hbw.cell (p := ⟨b, off + j, none⟩) (Nat.lt_of_lt_of_le hbB hB)).trans y0
      have r0 := Joins.cell_of_block hrow 0
      have r1 := Joins.cell_of_block hrow 1
      have hxs := HS.out x (List.mem_of_getElem? hx)
      have hsm : 0 ≤ (tl.take j).sum ∧ (tl.take j).sum ≤ 16777216 * 40 := by
        have a := sum_le (l := tl.take j) fun y hy => HS.out y (List.mem_of_mem_take hy)
        have b : (tl.take j).length ≤ 40 := by rw [List.length_take]; omega
        omega
      have hP := fun W => partL_n (.slice A n c) bs j W hb (by omega)
      have hat := pileF_at (bs := bs) (tl := tl) h0 j
      have hnx := pileF_next (bs := bs) (f := f) hx
      have ma : markN bs j < 41 := by unfold markN; split <;> omega
      have mb : markN bs (j + 1) = bs + (j + 1) := by unfold markN; rw [if_neg (by omega)]
      rw [← mb] at hnx
      have mc : markN bs (j + 1) < 41 := by omega
      have HNX := Lib.hid hnx
      have HAT2 := Lib.hid hat
      clear y0 hx hnx hat mb
      generalize (tl.take j).sum = S at hsm HNX HAT2
      generalize markN bs j = ma0 at hP ma HAT2
      generalize markN bs (j + 1) = mb0 at hP mc HNX
      go_wp2_with fail
      refine (hP _).mono ?_
      rintro e W2 ⟨rfl, hb2⟩
      have p0 := heap_alloc_new W2 (.cells #[.int .i64 ma0, .int .i64 mb0] 160)
      have pb := below_alloc W2 (.cells #[.int .i64 ma0, .int .i64 mb0] 160)
      have B2 := below_then hb2 pb
      have bl2 := (B2.block _ (size_of_block hbl.out)).trans hbl.out
      have rw2 := (B2.block _ (size_of_block hrow)).trans hrow
      have bw2 := hbw.trans (B2.mono (by have := hbw.size; omega))
      clear hP hb2 B2 pb hbl hrow hbw c0 r0 r1
      go_wp2_with fail
      generalize W2.alloc _ = W3 at p0 bl2 rw2 bw2 ⊢
      have c0 := Joins.cell_of_block p0 0
      have c1 := Joins.cell_of_block p0 1
      have e0 := (Joins.cell_of_block bl2 ma0).trans (hgA_at _ ma)
      rw [HAT2.out] at e0
      have zp := size_of_block p0
      have zb := size_of_block bl2
      refine wp_region_grown_tail 13 (by kernel_rfl) (by kernel_rfl) fun hcg => ?_
      simp only [List.take_succ_cons, List.take_zero, List.drop_succ_cons, List.drop_zero]
      repeat (go_big_quiet_step (fail))
      refine wpQuiet_nil ?_
      intro _ hw'
      obtain ⟨g, hw''⟩ := hw'
      subst hw''
      have bl3 := (g.b.block _ zb).trans bl2
      have rw3 := (g.b.block _ (size_of_block rw2)).trans rw2
      have bw3 := bw2.trans (g.b.mono (by omega))
      generalize g.val = W4 at bl3 rw3 bw3 ⊢
      have e1 := (Joins.cell_of_block bl3 mb0).trans (hgA_at _ mc)
      have g1 := Joins.unfrozen_of_block bl3 mb0
      have hst := Joins.block_setCell (i := mb0) bl3 (.int .i64 (S + x))
      rw [hgA_set, HNX.out] at hst
      have hrw := (put_other (b := Bh) (i := mb0) (k := w.heap.size) (.int .i64 (S + x)) (by omega)).trans rw3
      have hbw3 : Below Bh w (W4.setCell ⟨Bh, mb0, none⟩ (.int .i64 (S + x))) := bw3.setCell (p := ⟨Bh, mb0, none⟩) (Nat.le_refl _) _
      have HST := Lib.hid hst
      have HBW := Lib.hid hbw3
      clear hst hbw3 bw3 rw3 bl3 bw2 rw2 bl2 hcg c0 c1 e0 p0 zp zb
      go_wp2_with fail
      go_roundw
      case rel => exact ⟨j + 1, by push_cast; rfl, by omega, HST, hrw, HBW.out⟩
      case measure => simp [intOf]; omega
    · obtain rfl : j = tl.length := by omega
      go_wp2_with fail
      refine bodyPost_end (results_none rfl _ _ _) rfl ?_
      exact ⟨⟨_, rfl⟩, hbl.out, hbw⟩
end Go.Proofs.YtnedcclmfokdnaaGreat

namespace Go.Proofs.YtnedcclmfokdnaaGreat
open Go Go.RowKit Go.Shelf
set_option maxRecDepth 100000 in
set_option maxHeartbeats 4000000 in
theorem pileD_c (A : Option Addr) (n c bs Bh B : Nat) (f : Nat → Int) (v : Value) (tl : List Int) (w : World) (hb : bs ≤ 1000) (hbn : bs + tl.length ≤ 40) (h0 : f 0 = 0) (hs : ∀ x ∈ tl, 0 ≤ x ∧ x ≤ 16777216) (hv : Ints w B v tl) (hB : B ≤ Bh) (hh : w.heap[Bh]? = some (.cells (hgA f) 124)) :
    Calls Tryz.prog 142 #[.agg #[.slice A n c, .int .i64 bs], .pointer (some ⟨Bh, 0, none⟩), v] w fun e w' => (∃ u, e = .returned u) ∧ w'.heap[Bh]? = some (.cells (hgA (pileF bs tl f tl.length)) 124) ∧ Below Bh w w' := by
  obtain ⟨Av, cv, rfl, _, hn, hat⟩ := hv.open_
  have HAT := Lib.hid hat
  have HS := Lib.hid hs
  have q0 := heap_alloc_new w (.cells #[.slice A n c, .int .i64 bs] 134)
  have qb := below_alloc w (.cells #[.slice A n c, .int .i64 bs] 134)
  have h1 := (qb.block _ (size_of_block hh)).trans hh
  have zh := size_of_block hh
  clear hat hs hv hh
  go_enter Tryz.func142, Tryz.ntmps142
  go_wp2_with fail
  generalize w.alloc _ = W1 at q0 qb h1 ⊢
  go_loopw [11] (fun i wr => ∃ j : Nat, i = .int .i64 j ∧ j ≤ tl.length ∧ Hid (wr.heap[Bh]? = some (.cells (hgA (pileF bs tl f j)) 124)) ∧ wr.heap[w.heap.size]? = some (.cells #[.slice A n c, .int .i64 bs] 134) ∧ Below Bh w wr) (fun i _ => (tl.length - intOf i).toNat)
  case atStart => exact ⟨0, rfl, by omega, Lib.hid (by rw [pileF_zero]; exact h1), q0, qb.mono (by omega)⟩
  case round =>
    clear h1 q0 qb
    obtain ⟨j, rfl, hj, hbl, hrow, hbw⟩ := hrel
    by_cases hlt : j < tl.length
    · obtain ⟨b, off, x, rfl, hbB, hx, y0⟩ := HAT.out j hlt
      have c0 := (hbw.cell (p := ⟨b, off + j, none⟩) (Nat.lt_of_lt_of_le hbB hB)).trans y0
      have r0 := Joins.cell_of_block hrow 0
      have r1 := Joins.cell_of_block hrow 1
      have hxs := HS.out x (List.mem_of_getElem? hx)
      have hsm : 0 ≤ (tl.take j).sum ∧ (tl.take j).sum ≤ 16777216 * 40 := by
        have a := sum_le (l := tl.take j) fun y hy => HS.out y (List.mem_of_mem_take hy)
        have b : (tl.take j).length ≤ 40 := by rw [List.length_take]; omega
        omega
      have hP := fun W => partD_n (.slice A n c) bs j W hb (by omega)
      have hat := pileF_at (bs := bs) (tl := tl) h0 j
      have hnx := pileF_next (bs := bs) (f := f) hx
      have ma : markN bs j < 41 := by unfold markN; split <;> omega
      have mb : markN bs (j + 1) = bs + (j + 1) := by unfold markN; rw [if_neg (by omega)]
      rw [← mb] at hnx
      have mc : markN bs (j + 1) < 41 := by omega
      have HNX := Lib.hid hnx
      have HAT2 := Lib.hid hat
      clear y0 hx hnx hat mb
      generalize (tl.take j).sum = S at hsm HNX HAT2
      generalize markN bs j = ma0 at hP ma HAT2
      generalize markN bs (j + 1) = mb0 at hP mc HNX
      go_wp2_with fail
      refine (hP _).mono ?_
      rintro e W2 ⟨rfl, hb2⟩
      have p0 := heap_alloc_new W2 (.cells #[.int .i64 ma0, .int .i64 mb0] 160)
      have pb := below_alloc W2 (.cells #[.int .i64 ma0, .int .i64 mb0] 160)
      have B2 := below_then hb2 pb
      have bl2 := (B2.block _ (size_of_block hbl.out)).trans hbl.out
      have rw2 := (B2.block _ (size_of_block hrow)).trans hrow
      have bw2 := hbw.trans (B2.mono (by have := hbw.size; omega))
      clear hP hb2 B2 pb hbl hrow hbw c0 r0 r1
      go_wp2_with fail
      generalize W2.alloc _ = W3 at p0 bl2 rw2 bw2 ⊢
      have c0 := Joins.cell_of_block p0 0
      have c1 := Joins.cell_of_block p0 1
      have e0 := (Joins.cell_of_block bl2 ma0).trans (hgA_at _ ma)
      rw [HAT2.out] at e0
      have zp := size_of_block p0
      have zb := size_of_block bl2
      refine wp_region_grown_tail 13 (by kernel_rfl) (by kernel_rfl) fun hcg => ?_
      simp only [List.take_succ_cons, List.take_zero, List.drop_succ_cons, List.drop_zero]
      repeat (go_big_quiet_step (fail))
      refine wpQuiet_nil ?_
      intro _ hw'
      obtain ⟨g, hw''⟩ := hw'
      subst hw''
      have bl3 := (g.b.block _ zb).trans bl2
      have rw3 := (g.b.block _ (size_of_block rw2)).trans rw2
      have bw3 := bw2.trans (g.b.mono (by omega))
      generalize g.val = W4 at bl3 rw3 bw3 ⊢
      have e1 := (Joins.cell_of_block bl3 mb0).trans (hgA_at _ mc)
      have g1 := Joins.unfrozen_of_block bl3 mb0
      have hst := Joins.block_setCell (i := mb0) bl3 (.int .i64 (S + x))
      rw [hgA_set, HNX.out] at hst
      have hrw := (put_other (b := Bh) (i := mb0) (k := w.heap.size) (.int .i64 (S + x)) (by omega)).trans rw3
      have hbw3 : Below Bh w (W4.setCell ⟨Bh, mb0, none⟩ (.int .i64 (S + x))) := bw3.setCell (p := ⟨Bh, mb0, none⟩) (Nat.le_refl _) _
      have HST := Lib.hid hst
      have HBW := Lib.hid hbw3
      clear hst hbw3 bw3 rw3 bl3 bw2 rw2 bl2 hcg c0 c1 e0 p0 zp zb
      go_wp2_with fail
      go_roundw
      case rel => exact ⟨j + 1, by push_cast; rfl, by omega, HST, hrw, HBW.out⟩
      case measure => simp [intOf]; omega
    · obtain rfl : j = tl.length := by omega
      go_wp2_with fail
      refine bodyPost_end (results_none rfl _ _ _) rfl ?_
      exact ⟨⟨_, rfl⟩, hbl.out, hbw⟩
end Go.Proofs.YtnedcclmfokdnaaGreat
