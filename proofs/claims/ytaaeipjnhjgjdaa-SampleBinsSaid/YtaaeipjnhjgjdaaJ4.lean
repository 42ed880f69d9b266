/- Texts joined: 3Table. -/
import Derived.Test.YtaaeipjnhjgjdaaJ2
import Derived.Test.YtaaeipjnhjgjdaaJ3
import Derived.Lib.SmallJoins
import Derived.StillTailTactics
/- The triangle of the reference for samples. -/
namespace Go.Proofs.Ytaaeipjnhjgjdaa
open Go.RowKit

theorem Try.info3i : (Try.prog.info? 3).map (fun i => (i.zero, i.size, i.bytes)) = some (some (.int .i64 0), 1, 8) := by kernel_rfl
theorem Try.infoRow : (Try.prog.info? 46).map (fun i => (i.zero, i.size, i.bytes)) = some (some (.slice none 0 0), 1, 24) := by kernel_rfl

/-- The first k numbers of row i; the rest is 0. -/
def rowV (i k : Nat) : List Value := (List.range (i + 1)).map fun j => .int .i64 (if j < k then (Cb i j : Int) else 0)
theorem rowV_at {i k j : Nat} (h : j ≤ i) : (rowV i k)[j]? = some (.int .i64 (if j < k then (Cb i j : Int) else 0)) := by
  unfold rowV; rw [List.getElem?_map, List.getElem?_range (by omega)]; rfl
theorem rowV_set {i k : Nat} (h : k ≤ i) : (rowV i k).set k (.int .i64 (Cb i k : Int)) = rowV i (k + 1) := by
  apply List.ext_getElem?
  intro j
  rw [List.getElem?_set]
  by_cases e : k = j
  · subst e
    rw [if_pos rfl, if_pos (by simp [rowV]; omega), rowV_at h, if_pos (by omega)]
  · rw [if_neg e]
    by_cases hj : j ≤ i
    · rw [rowV_at hj, rowV_at hj]
      by_cases h1 : j < k
      · rw [if_pos h1, if_pos (by omega)]
      · rw [if_neg h1, if_neg (by omega)]
    · rw [List.getElem?_eq_none (by simp [rowV]; omega), List.getElem?_eq_none (by simp [rowV]; omega)]
theorem rowV_zero (i : Nat) : rowV i 0 = List.replicate (i + 1) (.int .i64 0) := by
  unfold rowV
  apply List.ext_getElem?
  intro j
  by_cases hj : j < i + 1
  · rw [List.getElem?_map, List.getElem?_range hj]; simp [hj]
  · rw [List.getElem?_eq_none (by simp; omega), List.getElem?_eq_none (by simp; omega)]

def rowsV (bs : Nat → Nat) (i : Nat) : List Value := (List.range i).map fun j => .slice (some ⟨bs j, 0, none⟩) (j + 1) (j + 1)
theorem own_apart {w : World} {B B' e e' s s' n n' g : Nat} {v v' : Value} {xs xs' : List Value} (h : w.ownsRow B e s v n xs) (h' : w.ownsRow B' e' s' v' n' xs') (hv : v.ownBlock = some g) (he : e ≠ e') : v'.ownBlock ≠ some g := by
  intro hv'
  rcases h.2 with ⟨rfl, _⟩ | ⟨g1, c1, cur1, rfl, _, hh, _⟩
  · simp [Value.ownBlock] at hv
  · rcases h'.2 with ⟨rfl, _⟩ | ⟨g2, c2, cur2, rfl, _, hh', _⟩
    · simp [Value.ownBlock] at hv'
    · simp only [Value.ownBlock, Option.some.injEq] at hv hv'
      subst hv; subst hv'
      rw [hh] at hh'
      simp only [Option.some.injEq, Obj.cells.injEq] at hh'
      exact he hh'.2.1
/-- The slice value v owns the first i rows of the triangle. -/
structure Tab (B : Nat) (wr : World) (v : Value) (i : Nat) (bs : Nat → Nat) : Prop where
  own : wr.ownsRow B 46 1 v i (rowsV bs i)
  row : ∀ j, j < i → wr.ownsRow B 3 1 (.slice (some ⟨bs j, 0, none⟩) (j + 1) (j + 1)) (j + 1) (rowV j (j + 1))
theorem Tab.later {B : Nat} {wr w' : World} {v : Value} {i : Nat} {bs : Nat → Nat} (h : Tab B wr v i bs) (hb : Below wr.heap.size wr w') : Tab B w' v i bs :=
  ⟨own_later h.own hb, fun j hj => own_later (h.row j hj) hb⟩
theorem Tab.cell {B : Nat} {wr : World} {v : Value} {i : Nat} {bs : Nat → Nat} (h : Tab B wr v i bs) {j k : Nat} (hj : j < i) (hk : k ≤ j) : wr.cell? ⟨bs j, k, none⟩ = some (.int .i64 (Cb j k : Int)) :=
  ((h.row j hj).cellAt k (by omega)).trans (by rw [rowV_at hk, if_pos (by omega)])
theorem Tab.at_ {B g cap : Nat} {wr : World} {i : Nat} {bs : Nat → Nat} (h : Tab B wr (.slice (some ⟨g, 0, none⟩) i cap) i bs) {j : Nat} (hj : j < i) : wr.cell? ⟨g, j, none⟩ = some (.slice (some ⟨bs j, 0, none⟩) (j + 1) (j + 1)) :=
  (h.own.cellAt j (by omega)).trans (by unfold rowsV; rw [List.getElem?_map, List.getElem?_range hj]; rfl)
theorem Tab.push {B r : Nat} {w1 w2 : World} {v v' : Value} {i : Nat} {bs : Nat → Nat} (h : Tab B w1 v i bs) (hr : w1.ownsRow B 3 1 (.slice (some ⟨r, 0, none⟩) (i + 1) (i + 1)) (i + 1) (rowV i (i + 1)))
    (hown : w2.ownsRow B 46 1 v' (i + 1) (rowsV bs i ++ [.slice (some ⟨r, 0, none⟩) (i + 1) (i + 1)])) (hg : w1.grownBy w2 v.ownBlock) : Tab B w2 v' (i + 1) (fun j => if j = i then r else bs j) := by
  have keep : ∀ {g n : Nat} {xs : List Value}, w1.ownsRow B 3 1 (.slice (some ⟨g, 0, none⟩) n n) n xs → w2.ownsRow B 3 1 (.slice (some ⟨g, 0, none⟩) n n) n xs := fun {g n xs} ho =>
    ho.kept hg (Or.inr fun e => own_apart ho h.own rfl (by decide) e.symm)
  refine ⟨?_, fun j hj => ?_⟩
  · have : rowsV (fun j => if j = i then r else bs j) (i + 1) = rowsV bs i ++ [.slice (some ⟨r, 0, none⟩) (i + 1) (i + 1)] := by
      unfold rowsV
      rw [List.range_succ, List.map_append]
      congr 1
      · refine List.map_congr_left fun j hj => ?_
        simp only [List.mem_range] at hj
        simp only [if_neg (by omega : ¬ j = i)]
      · simp
    rw [this]
    exact hown
  · by_cases e : j = i
    · subst e
      simp only [if_pos]
      exact keep hr
    · simp only [if_neg e]
      exact keep (h.row j (by omega))

set_option maxRecDepth 100000 in
theorem table_c (N : Nat) (w : World) (hN : N ≤ 50) :
    Calls Try.prog 144 #[.int .i64 N] w fun e w' => ∃ v bs, e = .returned v ∧ Tab w.heap.size w' v (N + 1) bs ∧ Below w.heap.size w w' := by
  obtain ⟨i0, hi, hz0, hz1, hz2⟩ := info_parts Try.info3i
  obtain ⟨i1, hj, hy0, hy1, hy2⟩ := info_parts Try.infoRow
  have HI := Lib.hid hi
  have HI0 := Lib.hid hz0
  have HI1 := Lib.hid hz1
  have HI2 := Lib.hid hz2
  have HJ := Lib.hid hj
  have HJ0 := Lib.hid hy0
  have HJ1 := Lib.hid hy1
  have HJ2 := Lib.hid hy2
  clear hi hz0 hz1 hz2 hj hy0 hy1 hy2
  go_enter Try.func144, Try.ntmps144
  go_wp2
  go_loopw [3, 4] (fun v i wr => ∃ (m : Nat) (bs : Nat → Nat), m ≤ N ∧ i = .int .i64 ((m : Int) + 1) ∧ Tab w.heap.size wr v (m + 1) bs ∧ Below w.heap.size w wr) (fun _ i _ => N + 1 - (intOf i).toNat)
  case atStart =>
    refine ⟨0, fun _ => w.heap.size, by omega, by simp, ⟨?_, fun j hj => ?_⟩, below_then (below_alloc _ _) (below_alloc _ _)⟩
    · show World.ownsRow _ _ _ _ _ 1 (rowsV (fun _ => w.heap.size) 1)
      have := World.ownsRow_lit (base := w.heap.size) (e := 46) (size := 1) (w.alloc (.cells #[.int .i64 1] 3)) #[.slice (some ⟨w.heap.size, 0, none⟩) 1 1] 1 (by simp) (by unfold maxLen; omega) rfl
      simpa [rowsV] using this
    · obtain rfl : j = 0 := by omega
      have := (World.ownsRow_lit (base := w.heap.size) (e := 3) (size := 1) w #[.int .i64 1] 1 (Nat.le_refl _) (by unfold maxLen; omega) rfl).alloc (.cells #[.slice (some ⟨w.heap.size, 0, none⟩) 1 1] 46)
      simpa [rowV, Cb_zero] using this
  case round =>
    obtain ⟨m, bs, hm, rfl, hT, hbw⟩ := hrel
    by_cases hlt : m + 1 ≤ N
    · obtain ⟨wo, rfl⟩ : ∃ wo : World, wo = wr := ⟨_, rfl⟩
      have hs0 := hbw.size
      have hd1 : decide ((m : Int) + 1 ≤ N) = true := decide_eq_true (by omega)
      obtain ⟨g, cap, rfl⟩ := Joins.ownsRow_form hT.own (by omega)
      obtain ⟨w1, hmk, hown1, hg1⟩ := run_make_full (P := Try.prog) wo wo.heap.size 46 3 i0 (.int .i64 0) 1 Try.underlying46 HI.out HI0.out HI1.out   .i64 .i64 (m + 1 + 1) (by rw [HI2.out]; omega) (by unfold maxLen; omega) (Nat.le_refl _)
      simp only [Int.natCast_add, Int.natCast_one, Nat.mul_one] at hmk hown1
      rw [show (Value.int .i64 0).cells = #[.int .i64 0] from rfl, toList_madeCells_one, ← rowV_zero] at hown1
      have hc1 : w1.cell? ⟨wo.heap.size, 0, none⟩ = some (.int .i64 0) := (hown1.cellAt 0 (by omega)).trans (by rw [rowV_at (by omega)]; rfl)
      have hf1 := hown1.frozenAt 0
      obtain ⟨hown2, hg2⟩ := hown1.stored 0 (.int .i64 1)
      have e1 : (rowV (m + 1) 0).set 0 (.int .i64 1) = rowV (m + 1) 1 := by have := rowV_set (i := m + 1) (k := 0) (by omega); rwa [Cb_zero] at this
      rw [e1] at hown2
      have HB : Hid (Below wo.heap.size wo (w1.setCell ⟨wo.heap.size, 0, none⟩ (.int .i64 1))) := ((Below.refl _ _).grown hg1 (Nat.le_refl _) (fun k e => by cases e)).setCell (Nat.le_refl _) _
      have HO := Lib.hid hown2
      clear hown1 hown2 hg1 hg2 e1
      go_wp2
      go_loopw [6] (fun k wr => ∃ p : Nat, p ≤ m + 1 ∧ k = .int .i64 ((p : Int) + 1) ∧ wr.ownsRow wo.heap.size 3 1 (.slice (some ⟨wo.heap.size, 0, none⟩) (m + 1 + 1) (m + 1 + 1)) (m + 1 + 1) (rowV (m + 1) (p + 1)) ∧ Below wo.heap.size wo wr) (fun k _ => m + 3 - (intOf k).toNat)
      case atStart => exact ⟨0, by omega, by simp, HO.out, HB.out⟩
      case round =>
        obtain ⟨p, hp, rfl, hO, hb⟩ := hrel
        by_cases h1 : p ≤ m
        · have hTq := hT.later hb
          have hbl : bs m < wo.heap.size := ((hT.row m (by omega)).lt _ rfl).2
          have hgl := (hT.own.lt g rfl).2
          have cA : wr.cell? ⟨g, m, none⟩ = some (.slice (some ⟨bs m, 0, none⟩) (m + 1) (m + 1)) := hTq.at_ (by omega)
          have cB : wr.cell? ⟨bs m, p, none⟩ = some (.int .i64 (Cb m p : Int)) := hTq.cell (by omega) h1
          have cC : wr.cell? ⟨wo.heap.size, p + 1, none⟩ = some (.int .i64 0) := (hO.cellAt (p + 1) (by omega)).trans (by rw [rowV_at (by omega), if_neg (by omega)])
          have fC := hO.frozenAt (p + 1)
          have hs := Lib.hid (Cb_succ m p)
          have hst := Lib.hid hO.stored
          have hne : g ≠ wo.heap.size := by omega
          have hne2 : bs m ≠ wo.heap.size := by omega
          have hne3 : wo.heap.size ≠ g := by omega
          have hne4 : wo.heap.size ≠ bs m := by omega
          clear hTq
          by_cases h2 : p < m
          · have cD : wr.cell? ⟨bs m, p + 1, none⟩ = some (.int .i64 (Cb m (p + 1) : Int)) := (hT.later hb).cell (by omega) (by omega)
            have hO2 := hst.out (p + 1) (.int .i64 (Cb m p : Int))
            have hb2 : Below wo.heap.size wo (wr.setCell ⟨wo.heap.size, p + 1, none⟩ (.int .i64 (Cb m p : Int))) := hb.setCell (Nat.le_refl _) _
            go_wp2
            generalize wr.setCell ⟨wo.heap.size, p + 1, none⟩ (.int .i64 (Cb m p : Int)) = W2 at hO2 hb2 ⊢
            have hT2 := hT.later hb2
            have dA : W2.cell? ⟨g, m, none⟩ = some (.slice (some ⟨bs m, 0, none⟩) (m + 1) (m + 1)) := hT2.at_ (by omega)
            have dB : W2.cell? ⟨bs m, p + 1, none⟩ = some (.int .i64 (Cb m (p + 1) : Int)) := hT2.cell (by omega) (by omega)
            have dC : W2.cell? ⟨wo.heap.size, p + 1, none⟩ = some (.int .i64 (Cb m p : Int)) := (hO2.1.cellAt (p + 1) (by omega)).trans (by rw [List.getElem?_set, if_pos rfl, if_pos (by simp [rowV]; omega)])
            have dF := hO2.1.frozenAt (p + 1)
            have hk1 : (Cb m p : Int) ≤ 126410606437752 := by have := Cb_le (n := m) (m := 50) (by omega) p; have := Cb_50 p; omega
            have hk2 : (Cb m (p + 1) : Int) ≤ 126410606437752 := by have := Cb_le (n := m) (m := 50) (by omega) (p + 1); have := Cb_50 (p + 1); omega
            have hk3 : 0 ≤ (Cb m p : Int) := Int.natCast_nonneg _
            have hk4 : 0 ≤ (Cb m (p + 1) : Int) := Int.natCast_nonneg _
            have hz : wo.heap.size < W2.heap.size := (hO2.1.lt _ rfl).2
            have hz2 : g < W2.heap.size := by omega
            have hz3 : bs m < W2.heap.size := by omega
            have hO2 := hO2.1
            clear hT2 cA cB cC cD fC
            refine wp_region_grown_tail 14 (by kernel_rfl) (by kernel_rfl) fun hcg => ?_
            simp only [List.take_succ_cons, List.take_zero, List.drop_succ_cons, List.drop_zero]
            repeat (go_big_quiet_step (fail))
            refine wpQuiet_nil ?_
            intro _ hw'
            obtain ⟨gr, hw''⟩ := hw'
            subst hw''
            have hB3 := hb2.trans (gr.b.mono (by omega))
            have dF3 : gr.val.frozen? ⟨wo.heap.size, p + 1, none⟩ = false := (gr.b.frozen (p := ⟨wo.heap.size, p + 1, none⟩) hz).trans dF
            have dC3 : gr.val.cell? ⟨wo.heap.size, p + 1, none⟩ = some (.int .i64 (Cb m p : Int)) := (gr.b.cell (p := ⟨wo.heap.size, p + 1, none⟩) hz).trans dC
            have hO3 := own_later hO2 gr.b
            go_wp2
            go_roundw
            case rel =>
              refine ⟨p + 1, by omega, by go_num, ?_, hB3.setCell (Nat.le_refl _) _⟩
              have := (hO3.stored (p + 1) (.int .i64 ((Cb m p : Int) + Cb m (p + 1)))).1
              rwa [List.set_set, show ((Cb m p : Int) + Cb m (p + 1)) = (Cb (m + 1) (p + 1) : Nat) by rw [hs.out]; simp, rowV_set (by omega)] at this
            case measure => simp [intOf]; omega
          · obtain rfl : p = m := by omega
            go_wp2
            go_roundw
            case rel =>
              refine ⟨p + 1, by omega, by go_num, ?_, hb.setCell (Nat.le_refl _) _⟩
              have e2 : Cb p p = Cb (p + 1) (p + 1) := by rw [hs.out, Cb_gt (by omega : p < p + 1)]; rfl
              rw [e2, ← rowV_set (by omega : p + 1 ≤ p + 1)]
              exact (hst.out _ _).1
            case measure => simp [intOf]; omega
        · obtain rfl : p = m + 1 := by omega
          have hTq := hT.later hb
          have hlen : (rowsV bs (m + 1)).length = m + 1 := by simp [rowsV]
          go_wp2_with (at_builtin; refine wpList_append_own _ rfl _ _ 173 rfl w.heap.size 46 i1 (.slice none 0 0) 1 24 Try.underlying173 HJ.out HJ0.out HJ1.out HJ2.out rfl (by decide) _ _ _ rfl (hTq.own.alloc _) ⟨wr.heap.size, 0, none⟩ 1 1 [.slice (some ⟨wo.heap.size, 0, none⟩) (m + 1 + 1) (m + 1 + 1)] rfl rfl (cell_one_new _ _ _) (one_oneCell rfl) ?c3 ?c4 ?c5 ?_)
          case c3 => unfold maxLen; omega
          case c4 => omega
          case c5 => have := hb.size; simp; omega
          intro v' w2 hown' hgrow _
          have hTn := (hTq.later (below_alloc _ _)).push ((Joins.ownsRow_le hO hs0).alloc _) hown' hgrow
          have hBn : Below w.heap.size w w2 := ((hbw.trans (hb.mono hs0)).alloc (by have := hb.size; omega) _).grown hgrow (by have := hb.size; simp; omega) fun k hk => (hTq.own.lt k hk).1
          clear hgrow hown'
          go_wp2
          go_roundw
          case rel => exact ⟨m + 1, _, by omega, by go_num, hTn, hBn⟩
          case measure => simp [intOf]; omega
    · obtain rfl : m = N := by omega
      go_wp2
      go_ret
      exact ⟨_, bs, rfl, hT, hbw⟩
end Go.Proofs.Ytaaeipjnhjgjdaa
