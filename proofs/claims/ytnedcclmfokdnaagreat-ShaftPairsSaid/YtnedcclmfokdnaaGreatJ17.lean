/- Texts joined: SRev. -/
import Derived.Test.YtnedcclmfokdnaaGreatProg
import Derived.Test.YtnedcclmfokdnaaGreatJ11
import Derived.Lib.SmallJoins
import Derived.StillTailTactics
import Derived.Test.YtnedcclmfokdnaaGreatJ10
namespace Go.Proofs.YtnedcclmfokdnaaGreat
open Go Go.RowKit
attribute [local go_sem] Oper.semAt_some Rel RelAt RelUpon
def revI (l : List Int) (i : Nat) : List Int := (List.range l.length).map fun k => if k < i ∨ l.length ≤ k + i then l.getD (l.length - 1 - k) 0 else l.getD k 0
theorem revI_len (l : List Int) (i : Nat) : (revI l i).length = l.length := by simp [revI]
theorem revI_at {l : List Int} {i k : Nat} (h : k < l.length) : (revI l i)[k]? = some (if k < i ∨ l.length ≤ k + i then l.getD (l.length - 1 - k) 0 else l.getD k 0) := by
  unfold revI; rw [List.getElem?_map, List.getElem?_range h]; rfl
theorem revI_zero (l : List Int) : revI l 0 = l := by
  apply List.ext_getElem?
  intro k
  by_cases h : k < l.length
  · rw [revI_at h, if_neg (by omega), List.getD_eq_getElem?_getD, List.getElem?_eq_getElem h]; rfl
  · rw [List.getElem?_eq_none (by rw [revI_len]; omega), List.getElem?_eq_none (by omega)]
theorem revI_end {l : List Int} {i : Nat} (h : l.length ≤ 2 * i + 1) : revI l i = l.reverse := by
  apply List.ext_getElem?
  intro k
  by_cases hk : k < l.length
  · rw [revI_at hk, List.getElem?_reverse hk, List.getElem?_eq_getElem (by omega : l.length - 1 - k < l.length)]
    congr 1
    by_cases hc : k < i ∨ l.length ≤ k + i
    · rw [if_pos hc, List.getD_eq_getElem?_getD, List.getElem?_eq_getElem (by omega)]; rfl
    · rw [if_neg hc, List.getD_eq_getElem?_getD, List.getElem?_eq_getElem hk]
      have e : l.length - 1 - k = k := by omega
      simp only [e]; rfl
  · rw [List.getElem?_eq_none (by rw [revI_len]; omega), List.getElem?_eq_none (by simp; omega)]
theorem revI_step {l : List Int} {i : Nat} (h : 2 * i + 1 < l.length) :
    ((revI l i).set i (l.getD (l.length - 1 - i) 0)).set (l.length - 1 - i) (l.getD i 0) = revI l (i + 1) := by
  apply List.ext_getElem?
  intro k
  rw [List.getElem?_set, List.getElem?_set]
  by_cases hk : k < l.length
  · rw [revI_at hk, revI_at hk]
    by_cases e1 : l.length - 1 - i = k
    · rw [if_pos e1, if_pos (by simp [revI_len]; omega), if_pos (by omega)]
      congr 2; omega
    · rw [if_neg e1]
      by_cases e2 : i = k
      · subst e2
        rw [if_pos rfl, if_pos (by rw [revI_len]; exact hk), if_pos (by omega)]
      · rw [if_neg e2]
        by_cases hc : k < i ∨ l.length ≤ k + i
        · rw [if_pos hc, if_pos (by omega)]
        · rw [if_neg hc, if_neg (by omega)]
  · rw [if_neg (by omega), if_neg (by omega), List.getElem?_eq_none (by rw [revI_len]; omega), List.getElem?_eq_none (by rw [revI_len]; omega)]
theorem map_set_int (l : List Int) (i : Nat) (x : Int) : (l.map (Value.int .i64)).set i (.int .i64 x) = (l.set i x).map (Value.int .i64) := by rw [List.map_set]
set_option maxRecDepth 100000 in
set_option maxHeartbeats 4000000 in
theorem reverse_c (v : Value) (l : List Int) (B : Nat) (w : World) (hown : w.ownsRow B 3 1 v l.length (l.map (Value.int .i64))) (hl : l.length ≤ 100000) :
    Calls Tryz.prog 152 #[v] w fun e w' => (∃ x, e = .returned x) ∧ w'.ownsRow B 3 1 v l.length (l.reverse.map (Value.int .i64)) ∧ Below B w w' := by
  rcases Joins.ownsRow_forms hown with ⟨rfl, h0⟩ | ⟨g, cap, rfl⟩
  · have hl0 : l = [] := List.length_eq_zero_iff.1 h0
    subst hl0
    have HO := Lib.hid hown
    clear hown h0
    go_enter Tryz.func152, Tryz.ntmps152
    go_wp2_with fail
    go_loopw [2, 3] (fun i j wr => i = .int .i64 0 ∧ j = .int .i64 (-1) ∧ wr = w) (fun _ _ _ => 0)
    case atStart => exact ⟨rfl, by first | rfl | go_num, rfl⟩
    case round =>
      obtain ⟨rfl, rfl, rfl⟩ := hrel
      go_wp2_with fail
      refine bodyPost_end (results_none rfl _ _ _) rfl ⟨⟨_, rfl⟩, HO.out, Below.refl _ _⟩
  · have HO := Lib.hid hown
    have hgB := (hown.lt g rfl).1
    have HZ := Lib.hid (revI_zero l)
    clear hown
    go_enter Tryz.func152, Tryz.ntmps152
    go_wp2_with fail
    go_loopw [2, 3] (fun i j wr => ∃ k : Nat, k ≤ l.length ∧ 2 * k ≤ l.length + 1 ∧ i = .int .i64 k ∧ j = .int .i64 ((l.length : Int) - 1 - k) ∧ wr.ownsRow B 3 1 (.slice (some ⟨g, 0, none⟩) l.length cap) l.length ((revI l k).map (Value.int .i64)) ∧ Below B w wr) (fun i _ _ => l.length - (intOf i).toNat)
    case atStart => exact ⟨0, by omega, by omega, rfl, by go_num, by rw [HZ.out]; exact HO.out, Below.refl _ _⟩
    case round =>
      obtain ⟨k, hk, hk2, rfl, rfl, hO, hbw⟩ := hrel
      by_cases hlt : 2 * k + 1 < l.length
      · obtain ⟨m, hm⟩ : ∃ m : Nat, m = l.length - 1 - k := ⟨_, rfl⟩
        have em : (l.length : Int) - 1 - k = m := by omega
        have hmk : k < m := by omega
        have hml : m < l.length := by omega
        have hkl : k < l.length := by omega
        have d1 : decide ((k : Int) < m) = true := decide_eq_true (by omega)
        rw [em]
        have ck0 : wr.cell? ⟨g, k, none⟩ = some (.int .i64 (l.getD k 0)) := (hO.cellAt k (by omega)).trans (by rw [List.getElem?_map, revI_at hkl, if_neg (by omega)] <;> rfl)
        have cm0 : wr.cell? ⟨g, m, none⟩ = some (.int .i64 (l.getD m 0)) := (hO.cellAt m (by omega)).trans (by rw [List.getElem?_map, revI_at hml, if_neg (by omega)] <;> rfl)
        have hst := revI_step (l := l) (i := k) hlt
        rw [← hm] at hst
        generalize l.getD k 0 = xk at ck0 hst
        generalize l.getD m 0 = xm at cm0 hst
        have HST := Lib.hid hst
        have zg := (hO.lt g rfl).2
        have HOO := Lib.hid hO
        have EM := Lib.hid em
        clear hst em hm
        go_wp2_with fail
        refine wp_region_looseM [2, 3] [0, 1, 4, 5, 6, 7, 8, 9, 10, 11, 12] .done [] [] [13, 14, 15] [] [] (by kernel_rfl) (by kernel_rfl) (by intro c a d v w h; cases d <;> exact h) (by intro c a d v w h; cases d <;> exact h) rfl (fun r i h => by simp at h) ?_
        simp only [pick, List.filterMap_cons, List.filterMap_nil, List.getElem?_toArray, List.getElem?_cons_succ, List.getElem?_cons_zero]
        refine wpPure_step (.slice (some ⟨g, 0, none⟩) l.length cap) rfl (fun u => rfl) ?_
        refine wpPure_step (.int .i64 m) rfl (fun u => rfl) ?_
        intro u hu
        have ck := (hu.cell (p := ⟨g, k, none⟩) zg).trans ck0
        have cm := (hu.cell (p := ⟨g, m, none⟩) zg).trans cm0
        have zu := Nat.lt_of_lt_of_le zg hu.size
        have hcg : ∀ (g : Gr u) b o, b < u.heap.size → g.val.cell? ⟨b, o, none⟩ = u.cell? ⟨b, o, none⟩ := fun g b o h => (bcell g.b).1 b o h
        iterate 11 (refine wpRel_step (fun K hK => ?_); go_simp; refine hK _ ?_; clear hK K)
        refine wpRel_nil fun V0 hb0 => ?_
        have D := below_then hu hb0
        have hO0 := own_later HOO.out D
        have hB0 := hbw.trans (D.mono (by omega))
        have fk := hO0.frozenAt k
        have fm := hO0.frozenAt m
        have vk := (hb0.cell (p := ⟨g, k, none⟩) zu).trans ck
        have vm := (hb0.cell (p := ⟨g, m, none⟩) zu).trans cm
        have HS1 := Lib.hid ((hO0.stored k (.int .i64 xm)).1.stored m (.int .i64 xk)).1
        have HB1 := Lib.hid (below_set (v := .int .i64 xk) (i := m) (below_set (v := .int .i64 xm) (i := k) hB0 hgB) hgB)
        rw [map_set_int, map_set_int, HST.out] at HS1
        clear hcg ck cm zu hu hb0 D hO0 hB0 ck0 cm0
        show wpPure _ _ _ _
        intro ks hks _ _
        obtain rfl : ks = [] := List.length_eq_zero_iff.1 hks
        clear hks
        show wpList _ _ _ _ _ _
        simp only [deco]
        go_wp2_with fail
        go_roundw
        case rel => exact ⟨k + 1, by omega, by omega, by go_num, by have := EM.out; first | go_num | (congr 1; omega), HS1.out, HB1.out⟩
        case measure => simp [intOf]; omega
      · have d1 : decide ((k : Int) < (l.length : Int) - 1 - k) = false := decide_eq_false (by omega)
        rw [revI_end (by omega)] at hO
        have HOO := Lib.hid hO
        clear hO
        go_wp2_with fail
        refine bodyPost_end (results_none rfl _ _ _) rfl ⟨⟨_, rfl⟩, HOO.out, hbw⟩
end Go.Proofs.YtnedcclmfokdnaaGreat
