/- Texts joined: SSpr SNetA SNetB. -/
import Derived.Test.YtnedcclmfokdnaaGreatJ8
import Derived.Test.YtnedcclmfokdnaaGreatJ2
import Derived.Test.YtnedcclmfokdnaaGreatJ11
import Derived.Lib.SmallJoins
import Derived.StillTailTactics
import Derived.Deep.LoopGhost
import Derived.Great.BuildSlice
import Derived.Laws.CopyOwn
import Derived.Laws.Rows
import Derived.Deep.WholeRow
namespace Go.Proofs.YtnedcclmfokdnaaGreat
open Go Go.RowKit
def sprL (frm : Int) (N : Nat) (M B : Int → Int) : List Value :=
  Value.int .i64 frm :: ((List.range 41).map (fun i : Nat => Value.int .i64 (if i < N then M (i : Int) else 0)) ++ (List.range 41).map (fun i : Nat => Value.int .i64 (if i < N then B (i : Int) else 0)))
def sprA (frm : Int) (N : Nat) (M B : Int → Int) : Array Value := (sprL frm N M B).toArray
theorem half_at (N : Nat) (M : Int → Int) {i : Nat} (h : i < 41) : ((List.range 41).map (fun i : Nat => Value.int .i64 (if i < N then M (i : Int) else 0)))[i]? = some (.int .i64 (if i < N then M (i : Int) else 0)) := by
  rw [List.getElem?_map, List.getElem?_range h]; rfl
theorem half_set (N : Nat) (M : Int → Int) {i : Nat} (h : i < N) (hN : N ≤ 41) (v : Int) :
    ((List.range 41).map (fun i : Nat => Value.int .i64 (if i < N then M (i : Int) else 0))).set i (.int .i64 v) = (List.range 41).map (fun j : Nat => Value.int .i64 (if j < N then setF M (i : Int) v (j : Int) else 0)) := by
  apply List.ext_getElem?
  intro j
  rw [List.getElem?_set]
  by_cases e : i = j
  · subst e
    rw [if_pos rfl, if_pos (by simp; omega), half_at N (setF M (i : Int) v) (by omega), if_pos h, setF_at]
  · rw [if_neg e]
    by_cases hj : j < 41
    · rw [half_at N M hj, half_at N (setF M (i : Int) v) hj, setF_ne _ _ (by omega)]
    · rw [List.getElem?_eq_none (by simpa using hj), List.getElem?_eq_none (by simpa using hj)]
theorem sprA_most {frm : Int} {N : Nat} {M B : Int → Int} {i : Nat} (h : i < N) (hN : N ≤ 41) : (sprA frm N M B)[1 + i]? = some (.int .i64 (M i)) := by
  unfold sprA sprL
  rw [List.getElem?_toArray, Nat.add_comm, List.getElem?_cons_succ, List.getElem?_append_left (by simp; omega), half_at N M (by omega), if_pos h]
theorem sprA_by {frm : Int} {N : Nat} {M B : Int → Int} {i : Nat} (h : i < N) (hN : N ≤ 41) : (sprA frm N M B)[42 + i]? = some (.int .i64 (B i)) := by
  unfold sprA sprL
  rw [List.getElem?_toArray, show 42 + i = (41 + i) + 1 by omega, List.getElem?_cons_succ, List.getElem?_append_right (by simp), show (41 + i) - ((List.range 41).map (fun i : Nat => Value.int .i64 (if i < N then M (i : Int) else 0))).length = i by simp, half_at N B (by omega), if_pos h]
theorem sprA_setM {frm : Int} {N : Nat} {M B : Int → Int} {i : Nat} (h : i < N) (hN : N ≤ 41) (v : Int) : (sprA frm N M B).setIfInBounds (1 + i) (.int .i64 v) = sprA frm N (setF M i v) B := by
  unfold sprA sprL
  rw [List.setIfInBounds_toArray, Nat.add_comm, List.set_cons_succ, List.set_append_left _ _ (by simp; omega), half_set N M h hN]
theorem sprA_setB {frm : Int} {N : Nat} {M B : Int → Int} {i : Nat} (h : i < N) (hN : N ≤ 41) (v : Int) : (sprA frm N M B).setIfInBounds (42 + i) (.int .i64 v) = sprA frm N M (setF B i v) := by
  unfold sprA sprL
  rw [List.setIfInBounds_toArray, show 42 + i = (41 + i) + 1 by omega, List.set_cons_succ, List.set_append_right _ _ (by simp), show (41 + i) - ((List.range 41).map (fun i : Nat => Value.int .i64 (if i < N then M (i : Int) else 0))).length = i by simp, half_set N B h hN]
theorem sprA_congr {frm : Int} {N : Nat} {M M' B B' : Int → Int} (h1 : ∀ i : Nat, i < N → M i = M' i) (h2 : ∀ i : Nat, i < N → B i = B' i) : sprA frm N M B = sprA frm N M' B' := by
  have e1 : (fun i : Nat => Value.int .i64 (if i < N then M (i : Int) else 0)) = fun i : Nat => Value.int .i64 (if i < N then M' (i : Int) else 0) := by
    funext i; by_cases h : i < N
    · rw [if_pos h, if_pos h, h1 i h]
    · rw [if_neg h, if_neg h]
  have e2 : (fun i : Nat => Value.int .i64 (if i < N then B (i : Int) else 0)) = fun i : Nat => Value.int .i64 (if i < N then B' (i : Int) else 0) := by
    funext i; by_cases h : i < N
    · rw [if_pos h, if_pos h, h2 i h]
    · rw [if_neg h, if_neg h]
  unfold sprA sprL
  rw [e1, e2]
theorem Tryz.zeroSpr0 : Tryz.zeroCells142 = sprA 0 0 (fun _ => 0) (fun _ => 0) := by kernel_rfl
theorem sprA_zero (frm : Int) (N : Nat) : sprA frm 0 (fun _ => 0) (fun _ => 0) = sprA frm N (fun _ => 0) (fun _ => 0) := by
  unfold sprA sprL
  simp only [ite_self]
theorem Tryz.zeroSpr (frm : Int) (N : Nat) : (Tryz.zeroCells142).setIfInBounds 0 (.int .i64 frm) = sprA frm N (fun _ => 0) (fun _ => 0) := by
  rw [Tryz.zeroSpr0, ← sprA_zero frm N]; rfl
def loM (j : Nat) (v : Int) : Int → Int := fun x => if x < j then v else 0
theorem loM_next {j : Nat} (v : Int) {i : Nat} : setF (loM j v) j v i = loM (j + 1) v i := by
  unfold setF loM
  by_cases e : (i : Int) = j
  · rw [if_pos e, if_pos (by omega)]
  · rw [if_neg e]
    by_cases h : (i : Int) < j
    · rw [if_pos h, if_pos (by omega)]
    · rw [if_neg h, if_neg (by omega)]
theorem sprA_size (frm : Int) (N : Nat) (M B : Int → Int) : (sprA frm N M B).size = 83 := by simp [sprA, sprL]
def KeptTo (l : List Tie) (i : Nat) (most : Int → Int) : Prop := ∀ (j : Nat) t, j < i → l[j]? = some t → most t.frm < farN → most t.too ≤ most t.frm + t.most
theorem kept_next {l : List Tie} {i : Nat} {most : Int → Int} {t : Tie} (h : KeptTo l i most) (ht : l[i]? = some t) (hk : most t.frm < farN → most t.too ≤ most t.frm + t.most) : KeptTo l (i + 1) most := fun j s hj hs hf => by
  by_cases e : j = i
  · subst e; rw [ht] at hs; cases hs; exact hk hf
  · exact h j s (by omega) hs hf
set_option maxRecDepth 100000 in
set_option maxHeartbeats 8000000 in
theorem spread_c (l : List Tie) (u : Value) (N frm : Nat) (w : World) (hu : TiesAt w w.heap.size u l) (ok : NetOk l N) (hf : frm < N) (hre : Reaches l N frm) (hlen : l.length ≤ 1000) :
    Calls Tryz.prog 88 #[.agg #[.int .i64 N, u], .int .i64 frm] w fun e w' => ∃ most by_ loose, e = .returned (.tuple #[.agg (sprA frm N most by_), .int .i64 loose]) ∧
      (loose = -1 ∧ Settled l N frm most by_ ∨ Loose l N by_ loose) ∧ Below w.heap.size w w' := by
  obtain ⟨A, cap, rfl, _, hn, hat⟩ := hu.open_
  have HT := Lib.hid hat
  have OK := Lib.hid ok
  have HRE := Lib.hid hre
  have hN0 : 0 < N := by have := ok.pos; omega
  have hN1 : N ≤ 41 := by have := ok.le; omega
  clear hat hu ok hre
  obtain ⟨q0, q1, q2, -, qb⟩ := three_new w (.cells #[.int .i64 N, .slice A l.length cap] 145) (.cells Tryz.zeroCells142 142) (.cells Tryz.zeroCells142 142)
  obtain ⟨W3, hW3⟩ : ∃ W3, W3 = (((w.alloc (.cells #[.int .i64 N, .slice A l.length cap] 145)).alloc (.cells Tryz.zeroCells142 142)).alloc (.cells Tryz.zeroCells142 142)).setRow (w.heap.size + 1 + 1) ((Tryz.zeroCells142).setIfInBounds 0 (.int .i64 frm)) := ⟨_, rfl⟩
  have k0 : W3.heap[w.heap.size]? = some (.cells #[.int .i64 N, .slice A l.length cap] 145) := by rw [hW3, setRow_other _ _ _ _ (by omega)]; exact q0
  have k1 : W3.heap[w.heap.size + 1]? = some (.cells Tryz.zeroCells142 142) := by rw [hW3, setRow_other _ _ _ _ (by omega)]; exact q1
  have k2 : W3.heap[w.heap.size + 1 + 1]? = some (.cells (sprA frm N (loM 0 farN) (loM 0 (-1))) 142) := by
    rw [hW3, setRow_heap _ _ _ _ _ _ q2, Tryz.zeroSpr frm N]
    rw [sprA_congr (M' := loM 0 farN) (B' := loM 0 (-1)) (fun i _ => by unfold loM; rw [if_neg (by omega)]) (fun i _ => by unfold loM; rw [if_neg (by omega)])]
  have kb : Below w.heap.size w W3 := by rw [hW3]; exact below_setRow qb (by omega) _
  have HW3 := Lib.hid hW3
  clear hW3 q0 q1 qb
  have c0 := Joins.cell_of_block k0 0
  go_enter Tryz.func88, Tryz.ntmps88
  go_wp2_with fail
  go_step3
  go_wp2_with (refine wpList_store_rowTo rfl 142 _ _ rfl rfl (w.heap.size + 1 + 1) ((Tryz.zeroCells142).setIfInBounds 0 (.int .i64 frm)) rfl rfl 142 _ q2 (by kernel_rfl) rfl (by kernel_rfl) ?_; rw [← HW3.out])
  clear c0 q2 HW3
  go_loopw [17] (fun i wr => ∃ j : Nat, j ≤ N ∧ i = .int .i64 j ∧ wr.heap[w.heap.size]? = some (.cells #[.int .i64 N, .slice A l.length cap] 145) ∧ wr.heap[w.heap.size + 1]? = some (.cells Tryz.zeroCells142 142) ∧ wr.heap[w.heap.size + 1 + 1]? = some (.cells (sprA frm N (loM j farN) (loM j (-1))) 142) ∧ Below w.heap.size w wr) (fun i _ => N - (intOf i).toNat)
  case atStart => exact ⟨0, Nat.zero_le _, rfl, k0, k1, k2, kb⟩
  case round =>
    clear k0 k1 k2 kb
    obtain ⟨j, hj, rfl, k0, k1, k2, kb⟩ := hrel
    by_cases hlt : j < N
    · have d1 : decide ((j : Int) < N) = true := decide_eq_true (by omega)
      have e1 := (Joins.cell_of_block k2 (1 + j)).trans (sprA_most hlt hN1)
      have e2 := (Joins.cell_of_block k2 (42 + j)).trans (sprA_by hlt hN1)
      have f1 := Joins.unfrozen_of_block k2 (1 + j)
      have f2 := Joins.unfrozen_of_block k2 (42 + j)
      have HK2 := Lib.hid (Joins.block_setCell (i := 42 + j) (Joins.block_setCell (i := 1 + j) k2 (.int .i64 1099511627776)) (.int .i64 (-1)))
      rw [sprA_setM hlt hN1, sprA_setB hlt hN1, sprA_congr (M := setF (loM j farN) j 1099511627776) (M' := loM (j + 1) farN) (B' := loM (j + 1) (-1)) (fun i _ => loM_next farN) (fun i _ => loM_next (-1))] at HK2
      go_wp2_with fail
      go_roundw
      case rel => exact ⟨j + 1, by omega, by go_num, (put_other _ (by omega)).trans ((put_other _ (by omega)).trans k0), (put_other _ (by omega)).trans ((put_other _ (by omega)).trans k1), HK2.out, below_set (below_set kb (by omega)) (by omega)⟩
      case measure => simp [intOf]; omega
    · obtain rfl : N = j := by omega
      have d1 : decide ((N : Int) < N) = false := decide_eq_false (by omega)
      have e1 := (Joins.cell_of_block k2 (1 + frm)).trans (sprA_most hf hN1)
      have f1 := Joins.unfrozen_of_block k2 (1 + frm)
      have c0 := Joins.cell_of_block ((put_other (i := 1 + frm) (.int .i64 0) (show w.heap.size ≠ w.heap.size + 1 + 1 by omega)).trans k0) 0
      have HK2 := Lib.hid (Joins.block_setCell (i := 1 + frm) k2 (.int .i64 0))
      rw [sprA_setM hf hN1, sprA_congr (M' := setF (fun _ => farN) frm 0) (B' := fun _ => -1) (fun i h => by unfold setF loM; rw [if_pos (show (i : Int) < (N : Int) by omega)]) (fun i h => by unfold loM; rw [if_pos (by omega)])] at HK2
      go_wp2_with fail
      go_step3
      go_wp2_with fail
      have hw4 := below_set (v := .int .i64 0) (i := 1 + frm) kb (show w.heap.size ≤ w.heap.size + 1 + 1 by omega)
      have k0' := (put_other (i := 1 + frm) (.int .i64 0) (show w.heap.size ≠ w.heap.size + 1 + 1 by omega)).trans k0
      have k1' := (put_other (i := 1 + frm) (.int .i64 0) (show w.heap.size + 1 ≠ w.heap.size + 1 + 1 by omega)).trans k1
      generalize wr.setCell _ _ = W4 at hw4 k0' k1' HK2 c0 ⊢
      clear k0 k1 k2 kb e1 f1
      go_loopw [8, 32] (fun s8 i wr => ∃ (r : Nat) (most by_ rd : Int → Int) (c : Nat), r < N ∧ s8 = .int .i64 (-1) ∧ i = .int .i64 r ∧ wr.heap[w.heap.size]? = some (.cells #[.int .i64 N, .slice A l.length cap] 145) ∧ wr.heap[w.heap.size + 1]? = some (.cells Tryz.zeroCells142 142) ∧ wr.heap[w.heap.size + 1 + 1]? = some (.cells (sprA frm N most by_) 142) ∧ Below w.heap.size w wr ∧ Hid (SprAt l N frm c r 0 most by_ rd) ∧ c ≤ 1000 * r) (fun _ i _ => N - (intOf i).toNat)
      case atStart => exact ⟨0, _, _, fun _ => -1, 0, hN0, rfl, rfl, k0', k1', HK2.out, hw4, spr_start l N frm, by omega⟩
      case round =>
        clear k0' k1' HK2 hw4 c0
        obtain ⟨r, most, by_, rd, c, hr, rfl, rfl, k0, k1, k2, kb, hSP, hcr⟩ := hrel
        have d2 : decide ((r : Int) < N) = true := decide_eq_true (by omega)
        have c0 := Joins.cell_of_block k0 0
        have c1 := Joins.cell_of_block k0 1
        obtain ⟨wo, rfl⟩ : ∃ wo : World, wo = wr := ⟨_, rfl⟩
        go_wp2_with fail
        go_loopw [8, 10, 38] (fun s8 s10 i wr => ∃ (i' : Nat) (most by_ rd : Int → Int) (c : Nat) (st : Bool), i' ≤ l.length ∧ s8 = .int .i64 (-1) ∧ s10 = .bool st ∧ i = .int .i64 i' ∧ wr.heap[w.heap.size]? = some (.cells #[.int .i64 N, .slice A l.length cap] 145) ∧ wr.heap[w.heap.size + 1]? = some (.cells Tryz.zeroCells142 142) ∧ wr.heap[w.heap.size + 1 + 1]? = some (.cells (sprA frm N most by_) 142) ∧ Below w.heap.size w wr ∧ Hid (SprAt l N frm c r i' most by_ rd) ∧ c ≤ 1000 * r + i' ∧ Hid (st = true → KeptTo l i' most) ∧ Hid (st = false → r + 1 < N)) (fun _ _ i _ => l.length - (intOf i).toNat)
        case atStart => exact ⟨0, most, by_, rd, c, true, Nat.zero_le _, rfl, rfl, rfl, k0, k1, k2, kb, hSP, by omega, fun _ j t hj => by omega, fun h => by cases h⟩
        case round =>
          clear k0 k1 k2 kb hSP hcr c0 c1 most by_ rd c
          obtain ⟨i', most, by_, rd, c, st, hi, rfl, rfl, rfl, k0, k1, k2, kb, hSP, hcr, hKP, hST⟩ := hrel
          by_cases hli : i' < l.length
          · have d3 : decide ((i' : Int) < l.length) = true := decide_eq_true (by omega)
            obtain ⟨b, off, x, rfl, hb, hx0, c0, c1, c2, c3⟩ := HT.out i' hli
            have hx := Lib.hid hx0
            have hrg := OK.out.rng x (List.mem_of_getElem? hx0)
            clear hx0
            obtain ⟨a, ha0⟩ : ∃ a : Nat, x.frm = a := ⟨x.frm.toNat, by omega⟩
            obtain ⟨c', hc0⟩ : ∃ c : Nat, x.too = c := ⟨x.too.toNat, by omega⟩
            have ha2 : a < N := by omega
            have hc2 : c' < N := by omega
            rw [ha0] at c0
            rw [hc0] at c1
            have ha := Lib.hid ha0
            have hc := Lib.hid hc0
            have hrm : -16777216 ≤ x.most ∧ x.most ≤ 16777216 := ⟨hrg.2.2.2.2.1, hrg.2.2.2.2.2⟩
            clear ha0 hc0 hrg
            have y0 := (kb.cell (p := ⟨b, off + i' * 4, none⟩) hb).trans c0
            have y1 := (kb.cell (p := ⟨b, off + i' * 4 + 1, none⟩) hb).trans c1
            have y2 := (kb.cell (p := ⟨b, off + i' * 4 + 2, none⟩) hb).trans c2
            have y3 := (kb.cell (p := ⟨b, off + i' * 4 + 3, none⟩) hb).trans c3
            clear c0 c1 c2 c3
            have zz := size_of_block k2
            obtain ⟨W6, hW6⟩ : ∃ W6, W6 = wr.alloc (.cells #[.int .i64 (a : Int), .int .i64 (c' : Int), .int .i64 x.most, .int .i64 x.id] 99) := ⟨_, rfl⟩
            have b6 : Below wr.heap.size wr W6 := by rw [hW6]; exact below_alloc _ _
            have bt : W6.heap[wr.heap.size]? = some (.cells #[.int .i64 (a : Int), .int .i64 (c' : Int), .int .i64 x.most, .int .i64 x.id] 99) := by rw [hW6]; exact heap_alloc_new _ _
            have HW6 := Lib.hid hW6
            clear hW6
            replace k0 := (b6.block _ (size_of_block k0)).trans k0
            replace k1 := (b6.block _ (size_of_block k1)).trans k1
            replace k2 := (b6.block _ (size_of_block k2)).trans k2
            replace kb := below_then kb b6
            clear b6
            have g0 := Joins.cell_of_block bt 0
            have g1 := Joins.cell_of_block bt 1
            have g2 := Joins.cell_of_block bt 2
            have e1 := (Joins.cell_of_block k2 (1 + a)).trans (sprA_most ha2 hN1)
            have e2 := (Joins.cell_of_block k2 (1 + c')).trans (sprA_most hc2 hN1)
            have z0 := size_of_block bt
            have z2 := size_of_block k2
            have sa := hSP.out.size a
            have sc := hSP.out.size c'
            have HSP := Lib.hid hSP.out
            by_cases f1 : most a = 1099511627776
            · have q1 : (most a == 1099511627776) = true := by rw [f1]; rfl
              have HP := Lib.hid (spr_pass HSP.out hx.out (by rw [ha.out, hc.out]; exact .inl f1))
              have HK9 : Hid (st = true → KeptTo l (i' + 1) most) := fun h => kept_next (hKP.out h) hx.out (by rw [ha.out, hc.out]; omega)
              go_wp2_with (first | (refine wpList_store_rowTo rfl 99 _ _ rfl rfl wr.heap.size #[.int .i64 (a : Int), .int .i64 (c' : Int), .int .i64 x.most, .int .i64 x.id] rfl rfl 99 _ (heap_alloc_new wr _) (by kernel_rfl) rfl (by kernel_rfl) ?_; rw [World.setRow_alloc_new, ← HW6.out]) | fail)
              refine wp_region_grown (by kernel_rfl) (by kernel_rfl) fun hcg => ?_
              repeat (go_big_quiet_step (fail))
              refine wpQuiet_nil ?_
              intro _ hw'
              obtain ⟨g, hw''⟩ := hw'
              subst hw''
              have gb := g.b
              generalize g.val = wM at gb ⊢
              replace k0 := (gb.block _ (size_of_block k0)).trans k0
              replace k1 := (gb.block _ (size_of_block k1)).trans k1
              replace k2 := (gb.block _ (size_of_block k2)).trans k2
              replace kb := below_then kb gb
              replace bt := (gb.block _ (size_of_block bt)).trans bt
              clear gb hcg g g0 g1 g2 e1 e2 z0 z2
              go_wp2_with fail
              go_roundw
              case rel => exact ⟨i' + 1, most, by_, rd, c, st, by omega, rfl, rfl, by go_num, k0, k1, k2, kb, HP.out, by omega, HK9, hST⟩
              case measure => simp [intOf]; omega

            · have q1 : (most a == 1099511627776) = false := by simpa using f1
              have s1 : -1090519040000 ≤ most a ∧ most a ≤ 1090519040000 := by unfold farN at sa; omega
              have s2 : -1099511627776 ≤ most c' ∧ most c' ≤ 1099511627776 := by unfold farN at sc; omega
              clear sa sc
              by_cases f2 : most c' ≤ most a + x.most
              · have q2 : decide (most c' ≤ most a + x.most) = true := decide_eq_true f2
                have q3 : decide (most a + x.most ≥ most c') = true := decide_eq_true f2
                have HP := Lib.hid (spr_pass HSP.out hx.out (by rw [ha.out, hc.out]; exact .inr f2))
                have HK9 : Hid (st = true → KeptTo l (i' + 1) most) := fun h => kept_next (hKP.out h) hx.out (by rw [ha.out, hc.out]; omega)
                go_wp2_with (first | (refine wpList_store_rowTo rfl 99 _ _ rfl rfl wr.heap.size #[.int .i64 (a : Int), .int .i64 (c' : Int), .int .i64 x.most, .int .i64 x.id] rfl rfl 99 _ (heap_alloc_new wr _) (by kernel_rfl) rfl (by kernel_rfl) ?_; rw [World.setRow_alloc_new, ← HW6.out]) | fail)
                refine wp_region_grown (by kernel_rfl) (by kernel_rfl) fun hcg => ?_
                repeat (go_big_quiet_step (fail))
                refine wpQuiet_nil ?_
                intro _ hw'
                obtain ⟨g, hw''⟩ := hw'
                subst hw''
                have gb := g.b
                generalize g.val = wM at gb ⊢
                replace k0 := (gb.block _ (size_of_block k0)).trans k0
                replace k1 := (gb.block _ (size_of_block k1)).trans k1
                replace k2 := (gb.block _ (size_of_block k2)).trans k2
                replace kb := below_then kb gb
                replace bt := (gb.block _ (size_of_block bt)).trans bt
                clear gb hcg g g0 g1 g2 e1 e2 z0 z2
                go_wp2_with fail
                go_roundw
                case rel => exact ⟨i' + 1, most, by_, rd, c, st, by omega, rfl, rfl, by go_num, k0, k1, k2, kb, HP.out, by omega, HK9, hST⟩
                case measure => simp [intOf]; omega

              · have q2 : decide (most c' ≤ most a + x.most) = false := decide_eq_false f2
                have q3 : decide (most a + x.most ≥ most c') = false := decide_eq_false f2
                have HS := Lib.hid (spr_set OK.out (N := c) (by omega) (by omega) HSP.out hx.out (by rw [ha.out]; unfold farN; omega) (by rw [ha.out, hc.out]; omega))
                rw [ha.out, hc.out] at HS
                go_wp2_with (first | (refine wpList_store_rowTo rfl 99 _ _ rfl rfl wr.heap.size #[.int .i64 (a : Int), .int .i64 (c' : Int), .int .i64 x.most, .int .i64 x.id] rfl rfl 99 _ (heap_alloc_new wr _) (by kernel_rfl) rfl (by kernel_rfl) ?_; rw [World.setRow_alloc_new, ← HW6.out]) | fail)
                refine wp_region_grown (by kernel_rfl) (by kernel_rfl) fun hcg => ?_
                repeat (go_big_quiet_step (fail))
                refine wpQuiet_nil ?_
                intro _ hw'
                obtain ⟨g, hw''⟩ := hw'
                subst hw''
                have gb := g.b
                generalize g.val = wM at gb ⊢
                replace k0 := (gb.block _ (size_of_block k0)).trans k0
                replace k1 := (gb.block _ (size_of_block k1)).trans k1
                replace k2 := (gb.block _ (size_of_block k2)).trans k2
                replace kb := below_then kb gb
                replace bt := (gb.block _ (size_of_block bt)).trans bt
                clear gb hcg g g0 g1 g2 e1 e2 z0 z2

                have t0 := Joins.cell_of_block bt 0
                have t1 := Joins.cell_of_block bt 1
                have t2 := Joins.cell_of_block bt 2
                have e1 := (Joins.cell_of_block k2 (1 + a)).trans (sprA_most ha2 hN1)
                have e2 := (Joins.cell_of_block k2 (1 + c')).trans (sprA_most hc2 hN1)
                have z0 := size_of_block bt
                have z2 := size_of_block k2
                go_wp2_with fail
                refine wp_region_grown_tail 12 (by kernel_rfl) (by kernel_rfl) fun hcg => ?_
                simp only [List.take_succ_cons, List.take_zero, List.drop_succ_cons, List.drop_zero]
                repeat (go_big_quiet_step (fail))
                refine wpQuiet_nil ?_
                intro _ hw'
                obtain ⟨g, hw''⟩ := hw'
                subst hw''
                have gb := g.b
                generalize g.val = wQ at gb ⊢
                replace k0 := (gb.block _ (size_of_block k0)).trans k0
                replace k1 := (gb.block _ (size_of_block k1)).trans k1
                replace k2 := (gb.block _ (size_of_block k2)).trans k2
                replace kb := below_then kb gb
                replace bt := (gb.block _ (size_of_block bt)).trans bt

                clear gb hcg g t0 t1 t2 e1 e2 z0 z2
                have t1 := Joins.cell_of_block bt 1
                have c0 := Joins.cell_of_block k0 0
                have e2 := (Joins.cell_of_block k2 (1 + c')).trans (sprA_most hc2 hN1)
                have e3 := (Joins.cell_of_block k2 (42 + c')).trans (sprA_by hc2 hN1)
                have u1 := Joins.unfrozen_of_block k2 (1 + c')
                have u2 := Joins.unfrozen_of_block k2 (42 + c')
                have n1 : wr.heap.size ≠ w.heap.size + 1 + 1 := by omega
                have HK2 := Joins.block_setCell (i := 42 + c') (Joins.block_setCell (i := 1 + c') k2 (.int .i64 (most a + x.most))) (.int .i64 i')
                rw [sprA_setM hc2 hN1, sprA_setB hc2 hN1] at HK2
                replace k2 := HK2
                replace k0 := (put_other (i := 42 + c') (.int .i64 i') (show w.heap.size ≠ w.heap.size + 1 + 1 by omega)).trans ((put_other (i := 1 + c') (.int .i64 (most a + x.most)) (show w.heap.size ≠ w.heap.size + 1 + 1 by omega)).trans k0)
                replace k1 := (put_other (i := 42 + c') (.int .i64 i') (show w.heap.size + 1 ≠ w.heap.size + 1 + 1 by omega)).trans ((put_other (i := 1 + c') (.int .i64 (most a + x.most)) (show w.heap.size + 1 ≠ w.heap.size + 1 + 1 by omega)).trans k1)
                replace kb := below_set (v := .int .i64 i') (i := 42 + c') (below_set (v := .int .i64 (most a + x.most)) (i := 1 + c') kb (show w.heap.size ≤ w.heap.size + 1 + 1 by omega)) (show w.heap.size ≤ w.heap.size + 1 + 1 by omega)
                clear HK2
                by_cases hrN : r + 1 = N
                · have q4 : ((r : Int) == (N : Int) - 1) = true := by rw [beq_iff_eq]; omega
                  have HLO : Hid (Loose l N (setF by_ c' i') c') := loose_of OK.out HS.out.toSpr (by omega) (by rw [setF_at]; omega)
                  have HV := Lib.hid (run_loadVar_row (P := Tryz.prog) (((wQ.setCell ⟨w.heap.size + 1 + 1, 1 + c', none⟩ (.int .i64 (most a + x.most))).setCell ⟨w.heap.size + 1 + 1, 42 + c', none⟩ (.int .i64 i')).setRow (w.heap.size + 1) (sprA frm N (setF most c' (most a + x.most)) (setF by_ c' i'))) (w.heap.size + 1) 142 142 (sprA frm N (setF most c' (most a + x.most)) (setF by_ c' i')) (0, 0) _ (setRow_heap _ _ _ _ _ _ k1) Tryz.underlying142 rfl (by rw [sprA_size]; kernel_rfl))
                  have hBF := Lib.hid (below_setRow kb (show w.heap.size ≤ w.heap.size + 1 by omega) (sprA frm N (setF most c' (most a + x.most)) (setF by_ c' i')))
                  go_wp2_with (first | (refine wpList_load_row rfl 142 _ rfl (w.heap.size + 1 + 1) rfl 142 (sprA frm N (setF most c' (most a + x.most)) (setF by_ c' i')) (0, 0) _ k2 Tryz.underlying142 rfl (by rw [sprA_size]; kernel_rfl) ?_) | (refine wpList_store_rowTo rfl 142 _ _ rfl rfl (w.heap.size + 1) (sprA frm N (setF most c' (most a + x.most)) (setF by_ c' i')) rfl rfl 142 _ k1 (by kernel_rfl) (by rw [sprA_size]; kernel_rfl) (by rw [sprA_size]; kernel_rfl) ?_))
                  try rw [Exit.noGoto_ret]
                  refine bodyPost_ret (v := .tuple #[.agg (sprA frm N (setF most c' (most a + x.most)) (setF by_ c' i')), .int .i64 (c' : Int)]) ?_ rfl ⟨(setF most c' (most a + x.most)), (setF by_ c' i'), (c' : Int), rfl, .inr HLO.out, hBF.out⟩
                  simp [results, Tryz.results88, asAddr, HV.out]

                · have q4 : ((r : Int) == (N : Int) - 1) = false := by rw [beq_eq_false_iff_ne]; omega
                  go_wp2_with fail
                  go_roundw
                  case rel => exact ⟨i' + 1, _, _, _, c + 1, false, by omega, rfl, rfl, by go_num, k0, k1, k2, kb, Lib.hid (by simpa using HS.out), by omega, Lib.hid (fun h => Bool.noConfusion h), Lib.hid (fun _ => by omega)⟩
                  case measure => simp [intOf]; omega

          · obtain rfl : i' = l.length := by omega
            have c0 := Joins.cell_of_block k0 0
            cases st with
            | true =>
              have HSE := Lib.hid (spr_settled OK.out (by omega) hSP.out (by omega) HRE.out (fun t ht hf => by
                obtain ⟨j, hj⟩ := List.getElem?_of_mem ht
                exact hKP.out rfl j t (List.getElem?_eq_some_iff.1 hj).1 hj hf))
              have HV := Lib.hid (run_loadVar_row (P := Tryz.prog) (wr.setRow (w.heap.size + 1) (sprA frm N most by_)) (w.heap.size + 1) 142 142 (sprA frm N most by_) (0, 0) _ (setRow_heap _ _ _ _ _ _ k1) Tryz.underlying142 rfl (by rw [sprA_size]; kernel_rfl))
              have hBF := Lib.hid (below_setRow kb (show w.heap.size ≤ w.heap.size + 1 by omega) (sprA frm N most by_))
              go_wp2_with (first | (refine wpList_load_row rfl 142 _ rfl (w.heap.size + 1 + 1) rfl 142 (sprA frm N most by_) (0, 0) _ k2 Tryz.underlying142 rfl (by rw [sprA_size]; kernel_rfl) ?_) | (refine wpList_store_rowTo rfl 142 _ _ rfl rfl (w.heap.size + 1) (sprA frm N most by_) rfl rfl 142 _ k1 (by kernel_rfl) (by rw [sprA_size]; kernel_rfl) (by rw [sprA_size]; kernel_rfl) ?_))
              refine bodyPost_ret (v := .tuple #[.agg (sprA frm N most by_), .int .i64 (-1)]) ?_ rfl ⟨most, by_, (-1), rfl, .inl ⟨rfl, HSE.out⟩, hBF.out⟩
              simp [results, Tryz.results88, asAddr, HV.out]

            | false =>
              have HSR := Lib.hid (spr_round hSP.out)
              have hr1 := hST.out rfl
              go_wp2_with fail
              go_roundw
              case rel => exact ⟨r + 1, most, by_, rd, c, hr1, rfl, by go_num, k0, k1, k2, kb, Lib.hid (by simpa using HSR.out), by omega⟩
              case measure => simp [intOf]; omega
end Go.Proofs.YtnedcclmfokdnaaGreat
namespace Go.Proofs.YtnedcclmfokdnaaGreat
open Go Go.RowKit
set_option maxRecDepth 100000 in
set_option maxHeartbeats 4000000 in
theorem agrees_c (l : List Tie) (u : Value) (N : Nat) (w : World) (hu : TiesAt w w.heap.size u l) (ok : NetOk l N) (hre : Reaches l N 0) (hlen : l.length ≤ 1000) :
    Calls Tryz.prog 128 #[.agg #[.int .i64 N, u]] w fun e w' => ∃ b : Bool, e = .returned (.bool b) ∧ (b = true ↔ ∃ h, Keeps l h) ∧ (b = false ↔ ∃ c, Circle l c) ∧ Below w.heap.size w w' := by
  obtain ⟨A, cap, rfl, _, _, _⟩ := TiesAt.open_ (id hu)
  have hN0 : 0 < N := by have := ok.pos; omega
  have x1 := fun W h => spread_c l (.slice A l.length cap) N 0 W h ok hN0 hre hlen
  have X1 := Lib.hid x1
  have HU := Lib.hid hu
  clear x1 hu ok hre
  have q0 := heap_alloc_new w (.cells #[.int .i64 N, .slice A l.length cap] 145)
  have qb := below_alloc w (.cells #[.int .i64 N, .slice A l.length cap] 145)
  go_enter Tryz.func128, Tryz.ntmps128
  go_wp2_with fail
  generalize w.alloc _ = W1 at q0 qb ⊢
  refine (X1.out W1 (HU.out.later qb)).mono ?_
  rintro e W2 ⟨most, by_, loose, rfl, hres, hF⟩
  have hB := below_then qb hF
  clear hF q0 qb
  obtain ⟨W3, hW3⟩ : ∃ W3, W3 = (W2.alloc (.cells Tryz.zeroCells142 142)).setRow W2.heap.size (sprA ((0 : Nat) : Int) N most by_) := ⟨_, rfl⟩
  have b3 : Below w.heap.size w W3 := by rw [hW3]; exact below_setRow (below_then hB (below_alloc _ _)) hB.size _
  have HW3 := Lib.hid hW3
  have HR : Hid ((loose = -1 ∧ ∃ h, Keeps l h) ∨ ((loose == -1) = false ∧ ∃ c, Circle l c)) := by
    rcases hres with ⟨a, b⟩ | b
    · exact .inl ⟨a, most, b.keeps⟩
    · exact .inr ⟨by rw [beq_eq_false_iff_ne]; have := b.rng.1; omega, b.circle⟩
  clear hres hW3 hB
  go_wp2_with (refine wpList_store_rowTo rfl 142 _ _ rfl rfl W2.heap.size (sprA ((0 : Nat) : Int) N most by_) rfl rfl 142 _ (heap_alloc_new W2 _) (by kernel_rfl) (by rw [sprA_size]; kernel_rfl) (by rw [sprA_size]; kernel_rfl) ?_; rw [← HW3.out])
  go_ret
  refine ⟨loose == -1, rfl, ?_, ?_, b3⟩
  · rcases HR.out with ⟨rfl, h⟩ | ⟨e, c, hc⟩
    · exact ⟨fun _ => h, fun _ => rfl⟩
    · exact ⟨fun h => (by rw [e] at h; cases h), fun ⟨h, hk⟩ => absurd hk (circle_no hc h)⟩
  · rcases HR.out with ⟨rfl, h, hk⟩ | ⟨e, hc⟩
    · exact ⟨fun h => (by cases h), fun ⟨c, hc⟩ => absurd hk (circle_no hc h)⟩
    · exact ⟨fun _ => hc, fun _ => e⟩
end Go.Proofs.YtnedcclmfokdnaaGreat
namespace Go.Proofs.YtnedcclmfokdnaaGreat
open Go Go.RowKit
set_option maxRecDepth 100000 in
set_option maxHeartbeats 4000000 in
theorem netEnds_c (l : List Tie) (u : Value) (N a b : Nat) (w : World) (hu : TiesAt w w.heap.size u l) (ok : NetOk l N) (ha : a < N) (hb : b < N) (hra : Reaches l N a) (hrb : Reaches l N b) (hlen : l.length ≤ 1000) :
    Calls Tryz.prog 104 #[.agg #[.int .i64 N, u], .agg #[.int .i64 a, .int .i64 b]] w fun e w' => ∃ lo hi E, e = .returned (.tuple #[.agg #[.int .i64 lo, .int .i64 hi], .int .i64 E]) ∧
      ((E = 9 ∧ lo = 0 ∧ hi = 0 ∧ ∃ c, Circle l c) ∨ (E = 0 ∧ ∃ ma ba mb bb, Settled l N a ma ba ∧ Settled l N b mb bb ∧ lo = -mb a ∧ hi = ma b)) ∧ Below w.heap.size w w' := by
  obtain ⟨A, cap, rfl, _, _, _⟩ := TiesAt.open_ (id hu)
  have hN1 : N ≤ 41 := by have := ok.le; omega
  have x1 := fun W h => spread_c l (.slice A l.length cap) N a W h ok ha hra hlen
  have x2 := fun W h => spread_c l (.slice A l.length cap) N b W h ok hb hrb hlen
  have X1 := Lib.hid x1
  have X2 := Lib.hid x2
  have HU := Lib.hid hu
  clear x1 x2 hu ok hra hrb
  obtain ⟨q0, q1, q2, -, qb⟩ := three_new w (.cells #[.int .i64 N, .slice A l.length cap] 145) (.cells #[.int .i64 a, .int .i64 b] 160) (.cells #[.int .i64 0, .int .i64 0] 63)
  go_enter Tryz.func104, Tryz.ntmps104
  go_wp2_with fail
  generalize ((w.alloc _).alloc _).alloc _ = W1 at q0 q1 q2 qb ⊢
  have c0 := Joins.cell_of_block q0 0
  have c1 := Joins.cell_of_block q0 1
  have p0 := Joins.cell_of_block q1 0
  go_wp2_with fail
  refine (X1.out W1 (HU.out.later qb)).mono ?_
  rintro e W2 ⟨ma, ba, loose, rfl, hres, hF⟩
  clear c0 c1 p0
  replace q0 := (hF.block _ (size_of_block q0)).trans q0
  replace q1 := (hF.block _ (size_of_block q1)).trans q1
  replace q2 := (hF.block _ (size_of_block q2)).trans q2
  replace qb := below_then qb hF
  clear hF
  obtain ⟨W3, hW3⟩ : ∃ W3, W3 = (W2.alloc (.cells Tryz.zeroCells142 142)).setRow W2.heap.size (sprA a N ma ba) := ⟨_, rfl⟩
  have b3 : Below W2.heap.size W2 W3 := by rw [hW3]; exact below_setRow (below_alloc _ _) (Nat.le_refl _) _
  have r3 : W3.heap[W2.heap.size]? = some (.cells (sprA a N ma ba) 142) := by rw [hW3]; exact setRow_heap _ _ _ _ _ _ (heap_alloc_new W2 _)
  have HW3 := Lib.hid hW3
  clear hW3
  have z2 := size_of_block q2
  replace q0 := (b3.block _ (size_of_block q0)).trans q0
  replace q1 := (b3.block _ (size_of_block q1)).trans q1
  replace q2 := (b3.block _ (size_of_block q2)).trans q2
  replace qb := below_then qb b3
  clear b3
  have c0 := Joins.cell_of_block q0 0
  have c1 := Joins.cell_of_block q0 1
  have p1 := Joins.cell_of_block q1 1
  rcases hres with ⟨rfl, hs⟩ | hs
  · have HS1 := Lib.hid hs
    clear hs
    go_wp2_with (refine wpList_store_rowTo rfl 142 _ _ rfl rfl W2.heap.size (sprA a N ma ba) rfl rfl 142 _ (heap_alloc_new W2 _) (by kernel_rfl) (by rw [sprA_size]; kernel_rfl) (by rw [sprA_size]; kernel_rfl) ?_; rw [← HW3.out])
    refine (X2.out W3 (HU.out.later qb)).mono ?_
    rintro e W4 ⟨mb, bb, loose2, rfl, hres, hF⟩
    have HS2 : Hid (Settled l N b mb bb) := by
      rcases hres with ⟨_, h⟩ | h
      · exact h
      · obtain ⟨c, hc⟩ := h.circle
        exact absurd HS1.out.keeps (circle_no hc _)
    clear hres c0 c1 p1 HW3
    replace q0 := (hF.block _ (size_of_block q0)).trans q0
    replace q1 := (hF.block _ (size_of_block q1)).trans q1
    replace q2 := (hF.block _ (size_of_block q2)).trans q2
    replace r3 := (hF.block _ (size_of_block r3)).trans r3
    replace qb := below_then qb hF
    clear hF
    obtain ⟨W5, hW5⟩ : ∃ W5, W5 = (W4.alloc (.cells Tryz.zeroCells142 142)).setRow W4.heap.size (sprA b N mb bb) := ⟨_, rfl⟩
    have b5 : Below W4.heap.size W4 W5 := by rw [hW5]; exact below_setRow (below_alloc _ _) (Nat.le_refl _) _
    have r5 : W5.heap[W4.heap.size]? = some (.cells (sprA b N mb bb) 142) := by rw [hW5]; exact setRow_heap _ _ _ _ _ _ (heap_alloc_new W4 _)
    have HW5 := Lib.hid hW5
    clear hW5
    replace q1 := (b5.block _ (size_of_block q1)).trans q1
    replace q2 := (b5.block _ (size_of_block q2)).trans q2
    replace r3 := (b5.block _ (size_of_block r3)).trans r3
    replace qb := below_then qb b5
    clear b5 q0
    have p0 := Joins.cell_of_block q1 0
    have p1 := Joins.cell_of_block q1 1
    have m1 := (Joins.cell_of_block r5 (1 + a)).trans (sprA_most ha hN1)
    have m2 := (Joins.cell_of_block r3 (1 + b)).trans (sprA_most hb hN1)
    have y1 := size_of_block q1
    have y2 := size_of_block r3
    have y3 := size_of_block r5
    have s1 := HS2.out.size a (by omega) (by omega)
    go_wp2_with (refine wpList_store_rowTo rfl 142 _ _ rfl rfl W4.heap.size (sprA b N mb bb) rfl rfl 142 _ (heap_alloc_new W4 _) (by kernel_rfl) (by rw [sprA_size]; kernel_rfl) (by rw [sprA_size]; kernel_rfl) ?_; rw [← HW5.out])
    refine wp_region_grown_tail 12 (by kernel_rfl) (by kernel_rfl) fun hcg => ?_
    simp only [List.take_succ_cons, List.take_zero, List.drop_succ_cons, List.drop_zero]
    repeat (go_big_quiet_step (fail))
    refine wpQuiet_nil ?_
    intro _ hw'
    obtain ⟨g, hw''⟩ := hw'
    subst hw''
    have gb := g.b
    generalize g.val = wM at gb ⊢
    replace q2 := (gb.block _ (size_of_block q2)).trans q2
    replace qb := below_then qb gb
    clear gb hcg g p0 p1 m1 m2 y1 y2 y3 q1 r3 r5
    have e0 := Joins.cell_of_block q2 0
    have e1 := Joins.cell_of_block q2 1
    have f0 := Joins.unfrozen_of_block q2 0
    have f1 := Joins.unfrozen_of_block q2 1
    have HPP := Lib.hid (put2 (.int .i64 (-mb a)) (.int .i64 (ma b)) q2)
    go_wp2_with fail
    refine bodyPost_ret (v := .tuple #[.agg #[.int .i64 (-mb a), .int .i64 (ma b)], .int .i64 0]) ?_ rfl ⟨_, _, _, rfl, .inr ⟨rfl, ma, ba, mb, bb, HS1.out, HS2.out, rfl, rfl⟩, below_set (below_set qb (by omega)) (by omega)⟩
    simp [results, Tryz.results104, go_sem, HPP.out.1, HPP.out.2]
  · have q3 : (loose != -1) = true := by rw [bne_iff_ne]; have := hs.rng.1; omega
    have HC := Lib.hid hs.circle
    have e0 := Joins.cell_of_block q2 0
    have e1 := Joins.cell_of_block q2 1
    have f0 := Joins.unfrozen_of_block q2 0
    have f1 := Joins.unfrozen_of_block q2 1
    have HPP := Lib.hid (put2 (.int .i64 0) (.int .i64 0) q2)
    clear hs
    go_wp2_with (refine wpList_store_rowTo rfl 142 _ _ rfl rfl W2.heap.size (sprA a N ma ba) rfl rfl 142 _ (heap_alloc_new W2 _) (by kernel_rfl) (by rw [sprA_size]; kernel_rfl) (by rw [sprA_size]; kernel_rfl) ?_; rw [← HW3.out])
    refine bodyPost_ret (v := .tuple #[.agg #[.int .i64 0, .int .i64 0], .int .i64 9]) ?_ rfl ⟨_, _, _, rfl, .inl ⟨rfl, rfl, rfl, HC.out⟩, below_set (below_set qb (by omega)) (by omega)⟩
    simp [results, Tryz.results104, go_sem, HPP.out.1, HPP.out.2]
end Go.Proofs.YtnedcclmfokdnaaGreat
