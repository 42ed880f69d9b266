/- Texts joined: SCatT SWith SPile SPileD SHeights SHas SDelW SCloneL SCloneD SCloneW. -/
import Derived.Test.YtnedcclmfokdnaaGreatJ13
import Derived.Test.YtnedcclmfokdnaaGreatJ14
import Derived.Lib.LazyBuf
import Derived.Lib.AppendZeros
import Derived.Laws.CopyOwn
namespace Go.Proofs.YtnedcclmfokdnaaGreat
open Go Go.RowKit Go.Shelf
theorem Tryz.infoFT : (Tryz.prog.info? 99).map (fun i => (i.zero, i.size, i.bytes)) = some (some (.agg #[.int .i64 0, .int .i64 0, .int .i64 0, .int .i64 0]), 4, 32) := by kernel_rfl
theorem rec_cellsT {w : World} {B cap : Nat} {ad : Addr} {l : List Tie} (h : TiesAt w B (.slice (some ad) l.length cap) l) : ∀ j u, (l.flatMap tC)[j]? = some u → w.cell? (ad.add j) = some u := fun j u hu => by
  obtain ⟨A', c', e, hl1, hl2, h3⟩ := h
  have hj : j < l.length * 4 := by have := (List.getElem?_eq_some_iff.1 hu).1; rwa [flat_length tC_len] at this
  obtain ⟨b, off, e2, hb, hc⟩ := h3 (by omega)
  have hi : j / 4 < l.length := by omega
  have hx := List.getElem?_eq_getElem hi
  have hq : j % 4 < (tC l[j / 4]).length := by rw [tC_len]; omega
  have hu' := List.getElem?_eq_getElem hq
  have ht := flat_at tC_len l (j / 4) _ (j % 4) _ hx hu'
  rw [show j / 4 * 4 + j % 4 = j by omega, hu] at ht
  have hcell := hc (j / 4) _ hx (j % 4) _ hu'
  rw [← Option.some.inj ht] at hcell
  simp only [Value.slice.injEq] at e
  rw [e2] at e
  obtain rfl := Option.some.inj e.1
  rw [show off + j / 4 * 4 + j % 4 = off + j by omega] at hcell
  simp only [Addr.add]
  by_cases h0 : j = 0
  · subst h0; simpa using hcell
  · simpa [h0] using hcell
theorem rec_oneT (l : List Tie) : ∀ u ∈ l.flatMap tC, u.oneCell' = true := fun u hu => by
  obtain ⟨x, _, hx⟩ := List.mem_flatMap.1 hu
  simp only [tC, List.mem_cons, List.not_mem_nil, or_false] at hx
  rcases hx with rfl | rfl | rfl | rfl <;> rfl
theorem run_append_nothing0T {P : Program} {w : World} (base : Nat) (t ty e : TypeId) (i : TypeInfo) (size c : Nat) (ht : P.underlying t = some (.slice e)) (hi : P.info? e = some i)
    (v : Value) (n : Nat) (xs : List Value) (hown : w.ownsRow base e size v n xs) :
    (Builtin.append_ #[t, t] ty #[v, .slice none 0 c]).run P w = .ok v w := by
  rcases hown.2 with ⟨rfl, rfl⟩ | ⟨g, cap, cur, rfl, _, _, hnc, _⟩
  · simp [Builtin.append_, run_underlying ht, sizeOf, typeInfo, hi, Builtin.lenOf, Builtin.firstCells]
  · simp [Builtin.append_, run_underlying ht, sizeOf, typeInfo, hi, Builtin.lenOf, Builtin.firstCells, hnc, storeCells]
set_option maxRecDepth 100000 in
theorem grow_cT (n : Nat) (hn : n ≤ 100000) (w : World) :
    Calls Tryz.prog 183 #[.slice none 0 0, .int .i64 n] w fun e w' => ∃ v, e = .returned v ∧ w'.ownsRow w.heap.size 99 4 v 0 [] ∧ Below w.heap.size w w' := by
  obtain ⟨i0, hi, hz0, hz1, hz2⟩ := info_parts Tryz.infoFT
  by_cases h0 : n = 0
  · subst h0
    go_enter Tryz.func183, Tryz.ntmps183
    go_wp2_with fail
    go_ret
    exact ⟨_, rfl, World.ownsRow_nil _ _ _ _, Below.refl _ _⟩
  · have hr := Lib.run_append_nil_zeros w 32 3 0 99 i0 _ .i64 .i64 Tryz.underlying32 Tryz.underlying3 hi hz0 n (by omega) (by rw [hz1]; omega) (by omega) (by rw [hz2]; omega)
    have hg1 := grownCap_ge w n 0 99
    have hg2 := grownCap_le_maxLen w n 0 99 (by unfold maxLen; omega)
    have d1 : decide ((n : Int) > 0) = true := decide_eq_true (by omega)
    have HO := Lib.hid (World.ownsRow_made (base := w.heap.size) (e := 99) (size := 4) w.drew (Builtin.zeroCells (Value.agg #[.int .i64 0, .int .i64 0, .int .i64 0, .int .i64 0]).cells n ++ Builtin.zeroCells (Value.agg #[.int .i64 0, .int .i64 0, .int .i64 0, .int .i64 0]).cells (grownCap w n 0 99 - n)) (grownCap w n 0 99) (Nat.le_refl _) hg2 (by simp [Builtin.zeroCells, Value.cells]; omega))
    have HB : Hid (Below w.heap.size w (w.drew.alloc (.cells (Builtin.zeroCells (Value.agg #[.int .i64 0, .int .i64 0, .int .i64 0, .int .i64 0]).cells n ++ Builtin.zeroCells (Value.agg #[.int .i64 0, .int .i64 0, .int .i64 0, .int .i64 0]).cells (grownCap w n 0 99 - n)) 99))) := ((Below.refl _ w).drew).alloc (Nat.le_refl _) _
    have HR := Lib.hid hr
    generalize w.drew.alloc _ = W2 at HO HB HR
    generalize grownCap w n 0 99 = G at hg1 hg2 HO HR
    clear hr
    go_enter Tryz.func183, Tryz.ntmps183
    go_wp2_with (at_builtin; refine Lib.wpList_append_run _ rfl _ _ _ _ rfl _ _ rfl rfl _ _ HR.out ?_)
    go_ret
    exact ⟨_, rfl, HO.out, HB.out⟩
def catNT (l1 l2 : List Tie) : Nat → Nat
  | 0 => 0
  | 1 => l1.length
  | _ => l1.length + l2.length
def catLT (l1 l2 : List Tie) : Nat → List Tie
  | 0 => []
  | 1 => l1
  | _ => l1 ++ l2
set_option maxRecDepth 100000 in
set_option maxHeartbeats 2000000 in
theorem concat2_cT (k : Nat) (v1 v2 : Value) (l1 l2 : List Tie) (w : World) (h0 : w.heap[k]? = some (.cells #[v1, v2] 32)) (h1 : TiesAt w w.heap.size v1 l1) (h2 : TiesAt w w.heap.size v2 l2) (hl1 : l1.length ≤ 5000) (hl2 : l2.length ≤ 5000) :
    Calls Tryz.prog 178 #[.slice (some ⟨k, 0, none⟩) 2 2] w fun e w' => ∃ v, e = .returned v ∧ w'.ownsRow w.heap.size 99 4 v (l1 ++ l2).length ((l1 ++ l2).flatMap tC) ∧ Below w.heap.size w w' := by
  obtain ⟨A1, c1, rfl⟩ := h1.form1
  obtain ⟨A2, c2, rfl⟩ := h2.form1
  obtain ⟨i0, hi, hz0, hz1, hz2⟩ := info_parts Tryz.infoFT
  have HI := Lib.hid hi
  have HI0 := Lib.hid hz0
  have HI1 := Lib.hid hz1
  have HI2 := Lib.hid hz2
  have H1 := Lib.hid h1
  have H2 := Lib.hid h2
  clear hi hz0 hz1 hz2 h1 h2
  have x0 := Joins.cell_of_block h0 0
  have x1 := Joins.cell_of_block h0 1
  have zk := size_of_block h0
  go_enter Tryz.func178, Tryz.ntmps178
  go_wp2_with fail
  go_loopw [3, 11] (fun s i wr => ∃ j : Nat, j ≤ 2 ∧ i = .int .i64 j ∧ s = .int .i64 (catNT l1 l2 j) ∧ wr = w) (fun _ i _ => 2 - (intOf i).toNat)
  case atStart => exact ⟨0, by omega, rfl, rfl, rfl⟩
  case round =>
    obtain ⟨j, hj, rfl, rfl, rfl⟩ := hrel
    match j, hj with
    | 0, _ =>
      rw [show catNT l1 l2 0 = 0 from rfl]
      simp only [Int.natCast_zero]
      go_wp2_with fail
      refine ⟨⟨1, by omega, rfl, by go_num, trivial⟩, by simp [intOf]⟩
    | 1, _ =>
      have d0 : decide ((l1.length : Int) + l2.length < 0) = false := decide_eq_false (by omega)
      rw [show catNT l1 l2 1 = l1.length from rfl]
      simp only [Int.natCast_one]
      go_wp2_with fail
      refine ⟨⟨2, by omega, rfl, by rw [show catNT l1 l2 2 = l1.length + l2.length from rfl]; go_num, trivial⟩, by simp [intOf]⟩
    | 2, _ =>
      rw [show catNT l1 l2 2 = l1.length + l2.length from rfl]
      obtain ⟨wo, rfl⟩ : ∃ wo : World, wo = wr := ⟨_, rfl⟩
      have hG := grow_cT (l1.length + l2.length) (by omega) wo
      have e2 : ((2 : Nat) : Int) = 2 := rfl
      rw [e2]
      go_wp2_with fail
      refine hG.mono ?_
      rintro e W1 ⟨v0, rfl, hO, hB⟩
      have y0 := (hB.block _ zk).trans h0
      have HB := Lib.hid hB
      have hzz := hB.size
      clear hG x0 x1 hB h0
      go_wp2_with fail
      go_loopw [6, 27] (fun s i wx => ∃ j : Nat, j ≤ 2 ∧ i = .int .i64 j ∧ wx.ownsRow wo.heap.size 99 4 s (catLT l1 l2 j).length ((catLT l1 l2 j).flatMap tC) ∧ Below wo.heap.size wo wx ∧ wx.heap[k]? = some (.cells #[.slice A1 l1.length c1, .slice A2 l2.length c2] 32)) (fun _ i _ => 2 - (intOf i).toNat)
      case atStart => exact ⟨0, by omega, rfl, hO, HB.out, y0⟩
      case round =>
        obtain ⟨j, hj, rfl, hown, hbw, hk⟩ := hrel
        have hsz := hbw.size
        have x0 := Joins.cell_of_block hk 0
        have x1 := Joins.cell_of_block hk 1
        match j, hj with
        | 0, _ =>
          rw [show catLT l1 l2 0 = [] from rfl] at hown
          simp only [Int.natCast_zero]
          cases A1 with
          | none =>
            have hnil : Hid (l1 = []) := by
              show l1 = []
              rcases l1 with _ | ⟨x, l⟩
              · rfl
              · obtain ⟨A', c', e, _, _, h3⟩ := H1.out
                obtain ⟨b, off, e2, _⟩ := h3 (by simp)
                simp only [Value.slice.injEq] at e
                rw [e2] at e; cases e.1
            have HR : ∀ ty : TypeId, (Builtin.append_ #[32, 32] ty #[u6, .slice none l1.length c1]).run Tryz.prog wr = .ok u6 wr := fun ty => by rw [hnil.out]; exact run_append_nothing0T (P := Tryz.prog) wo.heap.size 32 ty 99 i0 4 c1 Tryz.underlying32 HI.out _ _ _ hown
            go_wp2_with (at_builtin; refine Lib.wpList_append_run wr rfl _ _ _ _ rfl u6 (.slice none l1.length c1) rfl rfl u6 wr (HR _) ?_)
            go_roundw
            case rel => exact ⟨1, by omega, rfl, by rw [show catLT l1 l2 1 = l1 from rfl, hnil.out]; exact hown, hbw, hk⟩
            case measure => simp [intOf]
          | some ad =>
            have hnews := rec_cellsT (H1.out.later hbw)
            have hlt := hown.lt
            go_wp2_with (at_builtin; refine wpList_append_own _ rfl _ _ 32 rfl wo.heap.size 99 i0 (.agg #[.int .i64 0, .int .i64 0, .int .i64 0, .int .i64 0]) 4 32 Tryz.underlying32 HI.out HI0.out HI1.out HI2.out rfl (by decide) _ _ _ rfl hown ad l1.length c1 (l1.flatMap tC) rfl (flat_length tC_len l1) hnews (rec_oneT l1) ?c3 ?c4 ?c5 ?_)
            case c3 => unfold maxLen; simp; omega
            case c4 => simp; omega
            case c5 => exact hsz
            intro v' w1 hown' hgrow _
            have hB1 : Below wo.heap.size wo w1 := below_own hbw hsz hown hgrow
            have hk1 : w1.heap[k]? = _ := (hgrow.block k (size_of_block hk) (fun e => by have := hlt k e.symm; omega)).trans hk
            clear hgrow hown hnews hlt
            go_wp2_with fail
            refine ⟨⟨1, by omega, rfl, by rw [show catLT l1 l2 1 = l1 from rfl]; simpa using hown', hB1, hk1⟩, by simp [intOf]⟩
        | 1, _ =>
          rw [show catLT l1 l2 1 = l1 from rfl] at hown
          simp only [Int.natCast_one]
          cases A2 with
          | none =>
            have hnil : Hid (l2 = []) := by
              show l2 = []
              rcases l2 with _ | ⟨x, l⟩
              · rfl
              · obtain ⟨A', c', e, _, _, h3⟩ := H2.out
                obtain ⟨b, off, e2, _⟩ := h3 (by simp)
                simp only [Value.slice.injEq] at e
                rw [e2] at e; cases e.1
            have HR : ∀ ty : TypeId, (Builtin.append_ #[32, 32] ty #[u6, .slice none l2.length c2]).run Tryz.prog wr = .ok u6 wr := fun ty => by rw [hnil.out]; exact run_append_nothing0T (P := Tryz.prog) wo.heap.size 32 ty 99 i0 4 c2 Tryz.underlying32 HI.out _ _ _ hown
            go_wp2_with (at_builtin; refine Lib.wpList_append_run wr rfl _ _ _ _ rfl u6 (.slice none l2.length c2) rfl rfl u6 wr (HR _) ?_)
            go_roundw
            case rel => exact ⟨2, by omega, rfl, by rw [show catLT l1 l2 2 = l1 ++ l2 from rfl, hnil.out, List.append_nil]; exact hown, hbw, hk⟩
            case measure => simp [intOf]
          | some ad =>
            have hnews := rec_cellsT (H2.out.later hbw)
            have hlt := hown.lt
            go_wp2_with (at_builtin; refine wpList_append_own _ rfl _ _ 32 rfl wo.heap.size 99 i0 (.agg #[.int .i64 0, .int .i64 0, .int .i64 0, .int .i64 0]) 4 32 Tryz.underlying32 HI.out HI0.out HI1.out HI2.out rfl (by decide) _ _ _ rfl hown ad l2.length c2 (l2.flatMap tC) rfl (flat_length tC_len l2) hnews (rec_oneT l2) ?c3 ?c4 ?c5 ?_)
            case c3 => unfold maxLen; omega
            case c4 => omega
            case c5 => exact hsz
            intro v' w1 hown' hgrow _
            have hB1 : Below wo.heap.size wo w1 := below_own hbw hsz hown hgrow
            have hk1 : w1.heap[k]? = _ := (hgrow.block k (size_of_block hk) (fun e => by have := hlt k e.symm; omega)).trans hk
            clear hgrow hown hnews hlt
            go_wp2_with fail
            refine ⟨⟨2, by omega, rfl, by rw [show catLT l1 l2 2 = l1 ++ l2 from rfl, List.length_append, List.flatMap_append]; exact hown', hB1, hk1⟩, by simp [intOf]⟩
        | 2, _ =>
          rw [show catLT l1 l2 2 = l1 ++ l2 from rfl] at hown
          have e2 : ((2 : Nat) : Int) = 2 := rfl
          rw [e2]
          go_wp2_with fail
          go_ret
          exact ⟨_, rfl, hown, hbw⟩
        | j + 3, h => omega
    | j + 3, h => omega
end Go.Proofs.YtnedcclmfokdnaaGreat
namespace Go.Proofs.YtnedcclmfokdnaaGreat
open Go Go.RowKit Go.Shelf
attribute [local go_sem] Oper.semAt_some Rel RelAt RelUpon
set_option maxRecDepth 100000 in
set_option maxHeartbeats 4000000 in
theorem with_c (l m : List Tie) (N : Int) (u v : Value) (w : World) (hu : TiesAt w w.heap.size u l) (hv : TiesAt w w.heap.size v m) (hl : l.length ≤ 1000) (hm : m.length ≤ 1000) :
    Calls Tryz.prog 161 #[.agg #[.int .i64 N, u], v] w fun e w' => ∃ u', e = .returned (.agg #[.int .i64 N, u']) ∧ TiesAt w' w'.heap.size u' (l ++ m) ∧ Below w.heap.size w w' := by
  obtain ⟨A1, c1, rfl⟩ := Sl.form1 hu
  obtain ⟨A2, c2, rfl⟩ := Sl.form1 hv
  obtain ⟨q0, q1, -, qb⟩ := two_new' w (.cells #[.int .i64 N, .slice A1 l.length c1] 145) (.cells #[.int .i64 0, .slice none 0 0] 145)
  have hk := hu.later qb
  have hj := hv.later qb
  clear hu hv
  go_enter Tryz.func161, Tryz.ntmps161
  go_wp2_with fail
  generalize (w.alloc _).alloc _ = W1 at q0 q1 qb hk hj ⊢
  refine wp_region_looseM [4] [0, 1, 2, 3] (.one 5 (.one 6 .done)) [] [] [7, 8] [] [] (by kernel_rfl) (by kernel_rfl) (by intro c a d v w h; cases d <;> exact h) (by intro c a d v w h; cases d <;> exact h) rfl (fun r i h => by simp at h) ?_
  simp only [pick, List.filterMap_cons, List.filterMap_nil, List.getElem?_toArray, List.getElem?_cons_succ, List.getElem?_cons_zero]
  refine wpPure_step (.slice A2 m.length c2) rfl (fun u => by first | rfl | kernel_rfl | simp [execOp, go_sem]) ?_
  intro u1 hu1
  replace q0 := (hu1.block _ (size_of_block q0)).trans q0
  replace q1 := (hu1.block _ (size_of_block q1)).trans q1
  replace hk := hk.later hu1
  replace hj := hj.later hu1
  replace qb := below_then qb hu1
  have cq00 := Joins.cell_of_block q0 0
  have cq01 := Joins.cell_of_block q0 1
  have zq0 := size_of_block q0
  have hcg : ∀ (g : Gr u1) b o, b < u1.heap.size → g.val.cell? ⟨b, o, none⟩ = u1.cell? ⟨b, o, none⟩ := fun g b o h => (bcell g.b).1 b o h
  iterate 4 (refine wpRel_step (fun K hK => ?_); go_simp; refine hK _ ?_; clear hK K)
  refine wpRel_nil fun V1_0 hb1 => ?_
  clear hcg cq00 cq01 zq0
  replace q0 := (hb1.block _ (size_of_block q0)).trans q0
  replace q1 := (hb1.block _ (size_of_block q1)).trans q1
  replace hk := hk.later hb1
  replace hj := hj.later hb1
  replace qb := below_then qb hb1
  clear hb1 hu1
  refine wpTr_step rfl rfl fun K hK => ?_
  go_simp
  refine hK _ _ (below_alloc _ _) fun V1_1 hu => ?_
  clear hK K
  have n0 := (hu.block _ (by simp)).trans (heap_alloc_new V1_0 (.cells #[.slice A1 l.length c1, .slice A2 m.length c2] 32))
  have hxu := below_then (below_alloc V1_0 (.cells #[.slice A1 l.length c1, .slice A2 m.length c2] 32)) hu
  replace q0 := (hxu.block _ (size_of_block q0)).trans q0
  replace q1 := (hxu.block _ (size_of_block q1)).trans q1
  replace hk := hk.later hxu
  replace hj := hj.later hxu
  replace qb := below_then qb hxu
  clear hu hxu
  refine wpTr_step rfl rfl fun K hK => ?_
  go_simp
  refine (concat2_cT _ _ _ l m V1_1 n0 hk hj (by omega) (by omega)).mono ?_
  rintro e X ⟨u, rfl, hO, hx⟩
  refine hK _ _ hx fun V1_2 hu => ?_
  clear hK K
  replace hO := own_below hO hu
  have hxu := below_then hx hu
  replace n0 := (hxu.block _ (size_of_block n0)).trans n0
  replace q0 := (hxu.block _ (size_of_block q0)).trans q0
  replace q1 := (hxu.block _ (size_of_block q1)).trans q1
  replace hk := hk.later hxu
  replace hj := hj.later hxu
  replace qb := below_then qb hxu
  clear hx hu hxu
  show wpPure _ _ _ _
  intro ks hks _ _
  obtain rfl : ks = [] := List.length_eq_zero_iff.1 hks
  clear hks
  show wpList _ _ _ _ _ _
  simp only [deco]
  have hlen : (l ++ m).length ≤ 2000 := by rw [List.length_append]; omega
  generalize hlm : l ++ m = lm at hO hlen
  have HLM := Lib.hid hlm
  clear hlm
  obtain ⟨A, cap, rfl⟩ := own_form hO
  have hne := own_ne_block hO q1 (by decide)
  have hO2 := own_setCell (own_setCell hO 0 (.int .i64 N) hne) 1 (.slice A lm.length cap) hne
  have HT := Lib.hid (Sl.of_own tC_len hO2 (by omega))
  have HPP := Lib.hid (put2 (.int .i64 N) (.slice A lm.length cap) q1)
  have e0 := Joins.cell_of_block q1 0
  have e1 := Joins.cell_of_block q1 1
  have f0 := Joins.unfrozen_of_block q1 0
  have f1 := Joins.unfrozen_of_block q1 1
  have z1 := Lib.hid (size_of_block q1)
  clear hO hO2 hne
  go_wp2_with fail
  refine bodyPost_ret (v := .agg #[.int .i64 N, .slice A lm.length cap]) ?_ rfl ⟨_, rfl, by rw [HLM.out]; exact HT.out, below_set (below_set qb (by omega)) (by omega)⟩
  simp [results, Tryz.results161, go_sem, HPP.out.1, HPP.out.2]
end Go.Proofs.YtnedcclmfokdnaaGreat
namespace Go.Proofs.YtnedcclmfokdnaaGreat
open Go Go.RowKit Go.Shelf
def hgL (f : Nat → Int) : List Value := (List.range 41).map fun i => Value.int .i64 (f i)
def hgA (f : Nat → Int) : Array Value := (hgL f).toArray
theorem hgA_at (f : Nat → Int) {i : Nat} (h : i < 41) : (hgA f)[i]? = some (.int .i64 (f i)) := by
  unfold hgA hgL
  rw [List.getElem?_toArray, List.getElem?_map, List.getElem?_range h]; rfl
theorem hgA_size (f : Nat → Int) : (hgA f).size = 41 := by simp [hgA, hgL]
def markN (bs c : Nat) : Nat := if c = 0 then 0 else bs + c
theorem markN_eq (bs c : Nat) : markB bs c = (markN bs c : Nat) := by
  unfold markB markN
  by_cases h : c = 0
  · subst h; rfl
  · rw [if_neg (by omega), if_neg h]; push_cast; rfl
theorem partL_n (v : Value) (bs i : Nat) (w : World) (hb : bs ≤ 1000) (hi : i ≤ 1000) :
    Calls Tryz.prog 154 #[.agg #[v, .int .i64 bs], .int .i64 i] w fun e w' => e = .returned (.agg #[.int .i64 (markN bs i : Nat), .int .i64 (markN bs (i + 1) : Nat)]) ∧ Below w.heap.size w w' := by
  have h := partL_c v bs i w (by omega) (by omega)
  rwa [markN_eq, show ((i : Int) + 1) = ((i + 1 : Nat) : Int) by push_cast; rfl, markN_eq] at h
end Go.Proofs.YtnedcclmfokdnaaGreat
namespace Go.Proofs.YtnedcclmfokdnaaGreat
open Go Go.RowKit Go.Shelf
theorem partD_n (v : Value) (bs i : Nat) (w : World) (hb : bs ≤ 1000) (hi : i ≤ 1000) :
    Calls Tryz.prog 162 #[.agg #[v, .int .i64 bs], .int .i64 i] w fun e w' => e = .returned (.agg #[.int .i64 (markN bs i : Nat), .int .i64 (markN bs (i + 1) : Nat)]) ∧ Below w.heap.size w w' := by
  have h := partD_c v bs i w (by omega) (by omega)
  rwa [markN_eq, show ((i : Int) + 1) = ((i + 1 : Nat) : Int) by push_cast; rfl, markN_eq] at h
end Go.Proofs.YtnedcclmfokdnaaGreat
namespace Go.Proofs.YtnedcclmfokdnaaGreat
open Go Go.RowKit Go.Shelf
def Truth (w : World) (v : Value) (tl td : List Int) : Prop := ∃ a b, v = .agg #[a, b] ∧ Ints w w.heap.size a tl ∧ Ints w w.heap.size b td
theorem Truth.later {w w' : World} {v : Value} {tl td : List Int} (h : Truth w v tl td) (hb : Below w.heap.size w w') : Truth w' v tl td := by
  obtain ⟨a, b, e, h1, h2⟩ := h
  exact ⟨a, b, e, h1.later hb, h2.later hb⟩
def OwnTruth (w : World) (B : Nat) (v : Value) (tl td : List Int) : Prop := ∃ a b, v = .agg #[a, b] ∧ w.ownsRow B 3 1 a tl.length (tl.map (Value.int .i64)) ∧ w.ownsRow B 3 1 b td.length (td.map (Value.int .i64))
theorem OwnTruth.later {w w' : World} {B : Nat} {v : Value} {tl td : List Int} (h : OwnTruth w B v tl td) (hb : Below w.heap.size w w') : OwnTruth w' B v tl td := by
  obtain ⟨a, b, e, h3, h4⟩ := h
  exact ⟨a, b, e, own_later h3 hb, own_later h4 hb⟩
theorem OwnTruth.setCell {w : World} {B g : Nat} {v : Value} {tl td : List Int} {cs : Array Value} {t : TypeId} (h : OwnTruth w B v tl td) (hg : w.heap[g]? = some (.cells cs t)) (ht : 3 ≠ t) (i : Nat) (u : Value) : OwnTruth (w.setCell ⟨g, i, none⟩ u) B v tl td := by
  obtain ⟨a, b, e, h3, h4⟩ := h
  exact ⟨a, b, e, own_setCell h3 i u (own_ne_block h3 hg ht), own_setCell h4 i u (own_ne_block h4 hg ht)⟩
theorem OwnTruth.form {w : World} {B : Nat} {v : Value} {tl td : List Int} (h : OwnTruth w B v tl td) : ∃ A c A2 c2, v = .agg #[.slice A tl.length c, .slice A2 td.length c2] := by
  obtain ⟨a, b, rfl, h3, h4⟩ := h
  obtain ⟨A, c, rfl⟩ := own_form h3
  obtain ⟨A2, c2, rfl⟩ := own_form h4
  exact ⟨_, _, _, _, rfl⟩
theorem OwnTruth.nil_ (w : World) (B : Nat) : OwnTruth w B (.agg #[.slice none 0 0, .slice none 0 0]) [] [] := ⟨_, _, rfl, World.ownsRow_nil _ _ _ _, World.ownsRow_nil _ _ _ _⟩
def zeroH : Array Value := #[.int .i64 0, .int .i64 0, .int .i64 0, .int .i64 0, .int .i64 0, .int .i64 0, .int .i64 0, .int .i64 0, .int .i64 0, .int .i64 0, .int .i64 0, .int .i64 0, .int .i64 0, .int .i64 0, .int .i64 0, .int .i64 0, .int .i64 0, .int .i64 0, .int .i64 0, .int .i64 0, .int .i64 0, .int .i64 0, .int .i64 0, .int .i64 0, .int .i64 0, .int .i64 0, .int .i64 0, .int .i64 0, .int .i64 0, .int .i64 0, .int .i64 0, .int .i64 0, .int .i64 0, .int .i64 0, .int .i64 0, .int .i64 0, .int .i64 0, .int .i64 0, .int .i64 0, .int .i64 0, .int .i64 0]
theorem zeroH_eq : zeroH = hgA (fun _ => 0) := by kernel_rfl
end Go.Proofs.YtnedcclmfokdnaaGreat
namespace Go.Proofs.YtnedcclmfokdnaaGreat
open Go Go.RowKit Go.Shelf
set_option maxRecDepth 100000 in
theorem indexInts_c (v : Value) (l : List Int) (n : Int) (w : World) (hv : Ints w w.heap.size v l) :
    Calls Tryz.prog 182 #[v, .int .i64 n] w fun e w' => (∃ r : Int, e = .returned (.int .i64 r) ∧ -1 ≤ r ∧ (0 ≤ r ↔ n ∈ l)) ∧ Below w.heap.size w w' := by
  obtain ⟨A, cap, rfl, _, hn, hat⟩ := hv.open_
  have H := Lib.hid hat
  clear hat hv
  go_enter Tryz.func182, Tryz.ntmps182
  go_wp2_with fail
  go_loopw [8] (fun i wr => ∃ j : Nat, j ≤ l.length ∧ i = .int .i64 j ∧ Hid (n ∉ l.take j) ∧ w = wr) (fun i _ => l.length - (intOf i).toNat)
  case atStart => exact ⟨0, Nat.zero_le _, rfl, (by simp : n ∉ l.take 0), rfl⟩
  case round =>
    obtain ⟨j, hj, rfl, hq, rfl⟩ := hrel
    by_cases hlt : j < l.length
    · obtain ⟨b, off, x, rfl, hb0, hx0, c0⟩ := H.out j hlt
      have hx := Lib.hid hx0
      clear hx0
      by_cases hc : n = x
      · have d1 : (n == x) = true := by simpa using hc
        have hy : Hid (n ∈ l) := (by rw [hc]; exact List.mem_of_getElem? hx.out : n ∈ l)
        clear hc
        go_wp2_with fail
        go_ret
        exact ⟨⟨_, rfl, by omega, fun _ => hy.out, fun _ => by omega⟩, Below.refl _ _⟩
      · have d1 : (n == x) = false := by simpa using hc
        have hy : Hid (n ∉ l.take (j + 1)) := (by rw [take_snoc hx.out]; simp only [List.mem_append, List.mem_singleton, not_or]; exact ⟨hq.out, hc⟩ : n ∉ l.take (j + 1))
        clear hc
        go_wp2_with fail
        go_roundw
        case rel => exact ⟨j + 1, by omega, by go_num, hy, trivial⟩
        case measure => simp [intOf]; omega
    · obtain rfl : j = l.length := by omega
      rw [List.take_length] at hq
      go_wp2_with fail
      go_ret
      exact ⟨⟨_, rfl, by omega, fun h => by omega, fun h => absurd h hq.out⟩, Below.refl _ _⟩
theorem containsInts_c (v : Value) (l : List Int) (n : Int) (w : World) (hv : Ints w w.heap.size v l) :
    Calls Tryz.prog 170 #[v, .int .i64 n] w fun e w' => e = .returned (.bool (l.contains n)) ∧ Below w.heap.size w w' := by
  have HC := indexInts_c v l n w hv
  obtain ⟨A, cap, rfl⟩ := hv.form1
  clear hv
  go_enter Tryz.func170, Tryz.ntmps170
  go_wp2_with fail
  refine HC.mono ?_
  rintro e w1 ⟨⟨r, rfl, h1, h2⟩, hb⟩
  have hd : decide (r ≥ 0) = l.contains n := by
    rw [Bool.eq_iff_iff]; simp only [decide_eq_true_eq, List.contains_iff_mem]; exact h2
  clear h2
  go_wp2_with fail
  go_ret
  exact ⟨ret_bool (by simp), hb⟩
end Go.Proofs.YtnedcclmfokdnaaGreat
namespace Go.Proofs.YtnedcclmfokdnaaGreat
open Go Go.RowKit Go.Shelf
theorem rec_rowW {w : World} {g : Nat} {t : TypeId} {l : List Wg} (h : RowAt wC 6 w g t l) {j : Nat} {x : Wg} (hx : l[j]? = some x) :
    w.cell? ⟨g, j * 6, none⟩ = some (.int .i64 x.id) ∧ w.cell? ⟨g, j * 6 + 1, none⟩ = some (.int .i64 x.kind) ∧ w.cell? ⟨g, j * 6 + 2, none⟩ = some (.int .i64 x.frm) ∧ w.cell? ⟨g, j * 6 + 3, none⟩ = some (.int .i64 x.too) ∧ w.cell? ⟨g, j * 6 + 4, none⟩ = some (.int .i64 x.lo) ∧ w.cell? ⟨g, j * 6 + 5, none⟩ = some (.int .i64 x.hi) :=
  ⟨h.cell wC_len hx (j := 0) rfl, h.cell wC_len hx (j := 1) rfl, h.cell wC_len hx (j := 2) rfl, h.cell wC_len hx (j := 3) rfl, h.cell wC_len hx (j := 4) rfl, h.cell wC_len hx (j := 5) rfl⟩
set_option maxRecDepth 100000 in
set_option maxHeartbeats 2000000 in
theorem index_cW (g cap : Nat) (l : List Wg) (B : Wg → Bool) (gf : Nat) (y : Value) (w0 w : World) (h : RowAt wC 6 w g 112 l) (hlen : l.length ≤ 5000) (hb : Below w0.heap.size w0 w)
    (he : ∀ args w, (callFunc gf args).run Tryz.prog w = .ok (.enter gf args) w) (hP : ∀ x W, Below w0.heap.size w0 W → Calls Tryz.prog gf #[.agg #[.int .i64 x.id, .int .i64 x.kind, .int .i64 x.frm, .int .i64 x.too, .int .i64 x.lo, .int .i64 x.hi], y] W fun e W' => e = .returned (.bool (B x)) ∧ Below W.heap.size W W') :
    Calls Tryz.prog 181 #[.slice (some ⟨g, 0, none⟩) l.length cap, .func (.func gf) #[] #[y]] w fun e w' => (∃ r : Int, e = .returned (.int .i64 r) ∧ ((r = -1 ∧ ∀ x ∈ l, B x = false) ∨ ∃ k : Nat, r = k ∧ k < l.length ∧ (∀ x ∈ l.take k, B x = false) ∧ ∃ x, l[k]? = some x ∧ B x = true)) ∧ Below w.heap.size w w' := by
  have HR := Lib.hid h
  have HB := Lib.hid hb
  clear h
  go_enter Tryz.func181, Tryz.ntmps181
  go_wp2_with fail
  go_loopw [8] (fun i wr => ∃ j : Nat, j ≤ l.length ∧ i = .int .i64 j ∧ Hid (∀ x ∈ l.take j, B x = false) ∧ Below w.heap.size w wr) (fun i _ => l.length - (intOf i).toNat)
  case atStart => exact ⟨0, Nat.zero_le _, rfl, (by simp : ∀ x ∈ l.take 0, B x = false), Below.refl _ _⟩
  case round =>
    obtain ⟨j, hj, rfl, hq, hbw⟩ := hrel
    by_cases hlt : j < l.length
    · obtain ⟨x, hx0⟩ : ∃ x, l[j]? = some x := ⟨_, List.getElem?_eq_getElem hlt⟩
      obtain ⟨d0, d1, d2, d3, d4, d5⟩ := rec_rowW (HR.out.later hbw) hx0
      have hzg : g < wr.heap.size := by obtain ⟨_, h1, _⟩ := (HR.out.later hbw); exact size_of_block h1
      have hx := Lib.hid hx0
      have hc := hP x wr (below_then HB.out hbw)
      clear hx0
      cases hB : B x with
      | true =>
        rw [hB] at hc
        have HX := Lib.hid hB
        clear hB
        go_wp2_with fail
        refine hc.mono ?_
        rintro e w1 ⟨rfl, hb1⟩
        have B1 := below_then hbw hb1
        clear hc hb1 hbw d0 d1 d2 d3 d4 d5
        go_wp2_with fail
        go_ret
        exact ⟨⟨_, rfl, .inr ⟨j, rfl, hlt, hq.out, x, hx.out, HX.out⟩⟩, B1⟩
      | false =>
        rw [hB] at hc
        have hy : Hid (∀ u ∈ l.take (j + 1), B u = false) := by
          show ∀ u ∈ l.take (j + 1), B u = false
          rw [take_snoc hx.out]
          intro u hu
          rcases List.mem_append.1 hu with hu | hu
          · exact hq.out u hu
          · rw [List.mem_singleton.1 hu]; exact hB
        clear hB
        go_wp2_with fail
        refine hc.mono ?_
        rintro e w1 ⟨rfl, hb1⟩
        have B1 := below_then hbw hb1
        clear hc hb1 hbw d0 d1 d2 d3 d4 d5
        go_wp2_with fail
        go_roundw
        case rel => exact ⟨j + 1, by omega, by go_num, hy, B1⟩
        case measure => simp [intOf]; omega
    · obtain rfl : j = l.length := by omega
      rw [List.take_length] at hq
      go_wp2_with fail
      go_ret
      exact ⟨⟨_, rfl, .inl ⟨rfl, hq.out⟩⟩, hbw⟩
theorem indexNil_cW (A : Option Addr) (cap : Nat) (f : Value) (w : World) :
    Calls Tryz.prog 181 #[.slice A 0 cap, f] w fun e w' => e = .returned (.int .i64 (-1)) ∧ w' = w := by
  go_enter Tryz.func181, Tryz.ntmps181
  go_wp2_with fail
  go_loopw [8] (fun i wr => i = .int .i64 0 ∧ wr = w) (fun _ _ => 0)
  case atStart => exact ⟨rfl, rfl⟩
  case round =>
    obtain ⟨rfl, rfl⟩ := hrel
    go_wp2_with fail
    go_ret
    exact ⟨rfl, rfl⟩
theorem deleteNil_cW (A : Option Addr) (cap : Nat) (f : Value) (w : World) :
    Calls Tryz.prog 167 #[.slice A 0 cap, f] w fun e w' => e = .returned (.slice A 0 cap) ∧ w' = w := by
  have h := indexNil_cW A cap f w
  go_enter Tryz.func167, Tryz.ntmps167
  go_wp2_with fail
  refine h.mono ?_
  rintro e w1 ⟨rfl, rfl⟩
  go_wp2_with fail
  go_ret
  exact ⟨rfl, rfl⟩
structure DInvW (B : Wg → Bool) (l dk : List Wg) (i j : Nat) : Prop where
  len : dk.length = l.length
  lt : i < j
  pre : dk.take i = (l.take j).filter fun x => !B x
  post : dk.drop j = l.drop j
theorem DInvW.start {B : Wg → Bool} {l : List Wg} {k : Nat} {x : Wg} (h : ∀ u ∈ l.take k, B u = false) (hx : l[k]? = some x) (hb : B x = true) : DInvW B l l k (k + 1) := by
  refine ⟨rfl, Nat.lt_succ_self _, ?_, rfl⟩
  rw [take_snoc hx, List.filter_append]
  have e : (l.take k).filter (fun x => !B x) = l.take k := List.filter_eq_self.2 fun u hu => by rw [h u hu]; rfl
  rw [e]
  simp [hb]
theorem DInvW.at_ {B : Wg → Bool} {l dk : List Wg} {i j : Nat} (h : DInvW B l dk i j) {x : Wg} (hx : l[j]? = some x) : dk[j]? = some x := by
  have : (dk.drop j)[0]? = (l.drop j)[0]? := by rw [h.post]
  simpa [List.getElem?_drop, hx] using this
theorem DInvW.keep {B : Wg → Bool} {l dk : List Wg} {i j : Nat} (h : DInvW B l dk i j) {x : Wg} (hx : l[j]? = some x) (hb : B x = false) : DInvW B l (dk.set i x) (i + 1) (j + 1) := by
  have hj := (List.getElem?_eq_some_iff.1 hx).1
  have h1 := h.lt
  refine ⟨by rw [List.length_set]; exact h.len, by omega, ?_, ?_⟩
  · rw [set_take x (by rw [h.len]; omega), h.pre, take_snoc hx, List.filter_append]
    simp [hb]
  · rw [List.drop_set_of_lt (by omega), ← List.drop_drop, h.post, List.drop_drop]
theorem DInvW.skip {B : Wg → Bool} {l dk : List Wg} {i j : Nat} (h : DInvW B l dk i j) {x : Wg} (hx : l[j]? = some x) (hb : B x = true) : DInvW B l dk i (j + 1) := by
  have h1 := h.lt
  refine ⟨h.len, by omega, ?_, ?_⟩
  · rw [h.pre, take_snoc hx, List.filter_append]
    simp [hb]
  · rw [← List.drop_drop, h.post, List.drop_drop]
theorem DInvW.done {B : Wg → Bool} {l dk : List Wg} {i : Nat} (h : DInvW B l dk i l.length) : dk.take i = (l.filter fun x => !B x) ∧ i = (l.filter fun x => !B x).length := by
  have e := h.pre
  rw [List.take_length] at e
  refine ⟨e, ?_⟩
  rw [← e, List.length_take, h.len]
  have := h.lt
  omega
theorem Tryz.zeroDW (w : World) : (zeroValue 112).run Tryz.prog w = .ok (.agg #[.int .i64 0, .int .i64 0, .int .i64 0, .int .i64 0, .int .i64 0, .int .i64 0]) w := by kernel_rfl
set_option maxRecDepth 100000 in
set_option maxHeartbeats 4000000 in
theorem delete_cW (g cap : Nat) (l : List Wg) (B : Wg → Bool) (gf : Nat) (y : Value) (w0 w : World) (h : RowAt wC 6 w g 112 l) (hcap : l.length ≤ cap) (hlen : l.length ≤ 5000) (hb : Below w0.heap.size w0 w) (hg : w0.heap.size ≤ g)
    (he : ∀ args w, (callFunc gf args).run Tryz.prog w = .ok (.enter gf args) w) (hP : ∀ x W, Below w0.heap.size w0 W → Calls Tryz.prog gf #[.agg #[.int .i64 x.id, .int .i64 x.kind, .int .i64 x.frm, .int .i64 x.too, .int .i64 x.lo, .int .i64 x.hi], y] W fun e W' => e = .returned (.bool (B x)) ∧ Below W.heap.size W W') :
    Calls Tryz.prog 167 #[.slice (some ⟨g, 0, none⟩) l.length cap, .func (.func gf) #[] #[y]] w fun e w' => e = .returned (.slice (some ⟨g, 0, none⟩) (l.filter fun x => !B x).length cap) ∧ RowAt wC 6 w' g 112 (l.filter fun x => !B x) ∧ Below w0.heap.size w0 w' := by
  have HI := index_cW g cap l B gf y w0 w h hlen hb he hP
  have HR := Lib.hid h
  have HPP := Lib.hid hP
  clear h hP
  go_enter Tryz.func167, Tryz.ntmps167
  go_wp2_with fail
  refine HI.mono ?_
  rintro e w1 ⟨⟨r, rfl, hr⟩, hb1⟩
  have B1 := below_then hb hb1
  have R1 := Lib.hid (HR.out.later hb1)
  clear HI hb hb1 HR
  rcases hr with ⟨rfl, hall⟩ | ⟨k, rfl, hk, hpre, x, hx, hbx⟩
  · have e : Hid ((l.filter fun x => !B x) = l) := List.filter_eq_self.2 fun u hu => by rw [hall u hu]; rfl
    clear hall
    go_wp2_with fail
    go_ret
    rw [e.out]
    exact ⟨rfl, R1.out, B1⟩
  · have I0 := Lib.hid (DInvW.start hpre hx hbx)
    clear hpre hx hbx
    have d1 : ((k : Int) == -1) = false := beq_eq_false_iff_ne.2 (by omega)
    go_wp2_with fail
    go_loopw [5, 6] (fun s5 s6 wr => ∃ (i j : Nat) (dk : List Wg), j ≤ l.length ∧ s5 = .int .i64 i ∧ s6 = .int .i64 j ∧ Hid (DInvW B l dk i j) ∧ Hid (RowAt wC 6 wr g 112 dk) ∧ Below w0.heap.size w0 wr) (fun _ s6 _ => l.length - (intOf s6).toNat)
    case atStart => exact ⟨k, k + 1, l, by omega, rfl, by go_num, I0, R1, B1⟩
    case round =>
      obtain ⟨i, j, dk, hj, rfl, rfl, hI, hR, hbw⟩ := hrel
      have hij := hI.out.lt
      by_cases hlt : j < l.length
      · obtain ⟨x, hx0⟩ : ∃ x, l[j]? = some x := ⟨_, List.getElem?_eq_getElem hlt⟩
        obtain ⟨c0, c1, c2, c3, c4, c5⟩ := rec_rowW hR.out (hI.out.at_ hx0)
        have hzg : g < wr.heap.size := by obtain ⟨_, h1, _⟩ := hR.out; exact size_of_block h1
        have hx := Lib.hid hx0
        clear hx0
        obtain ⟨W2, hW2⟩ : ∃ W2, W2 = wr.alloc (.cells #[.int .i64 x.id, .int .i64 x.kind, .int .i64 x.frm, .int .i64 x.too, .int .i64 x.lo, .int .i64 x.hi] 112) := ⟨_, rfl⟩
        have b2 : Below wr.heap.size wr W2 := by rw [hW2]; exact below_alloc _ _
        have e2 : W2.heap[wr.heap.size]? = some (.cells #[.int .i64 x.id, .int .i64 x.kind, .int .i64 x.frm, .int .i64 x.too, .int .i64 x.lo, .int .i64 x.hi] 112) := by rw [hW2]; exact heap_alloc_new _ _
        have HW2 := Lib.hid hW2
        clear hW2
        have g0 := Joins.cell_of_block e2 0
        have g1 := Joins.cell_of_block e2 1
        have g2 := Joins.cell_of_block e2 2
        have g3 := Joins.cell_of_block e2 3
        have g4 := Joins.cell_of_block e2 4
        have g5 := Joins.cell_of_block e2 5
        have B2 := below_then hbw b2
        have hc := HPP.out x W2 B2
        have R2 := Lib.hid (hR.out.later b2)
        have z2 := size_of_block e2
        have n2 := b2.size
        clear hR hbw b2
        cases hB : B x with
        | true =>
          rw [hB] at hc
          have hy := Lib.hid (hI.out.skip hx.out hB)
          clear hB hI hx
          go_wp2_with fail
          rw [← HW2.out]
          refine hc.mono ?_
          rintro e W3 ⟨rfl, hb3⟩
          have R3 := Lib.hid (R2.out.later hb3)
          have B3 := below_then B2 hb3
          clear hc hb3 c0 c1 c2 c3 c4 c5 g0 g1 g2 g3 g4 g5 R2 B2
          go_wp2_with fail
          go_roundw
          case rel => exact ⟨i, j + 1, dk, by omega, rfl, by go_num, hy, R3, B3⟩
          case measure => simp [intOf]; omega
        | false =>
          rw [hB] at hc
          have hy := Lib.hid (hI.out.keep hx.out hB)
          have hdl := hI.out.len
          clear hB hI hx
          go_wp2_with fail
          rw [← HW2.out]
          refine hc.mono ?_
          rintro e W3 ⟨rfl, hb3⟩
          have e3 := (hb3.block _ z2).trans e2
          have g0 := Joins.cell_of_block e3 0
          have g1 := Joins.cell_of_block e3 1
          have g2 := Joins.cell_of_block e3 2
          have g3 := Joins.cell_of_block e3 3
          have g4 := Joins.cell_of_block e3 4
          have g5 := Joins.cell_of_block e3 5
          obtain ⟨cur, k1, k2, k3⟩ := R2.out.later hb3
          have B3 := below_then B2 hb3
          have RS := Lib.hid (RowAt.set wC_len k1 k2 k3 (i := i) (by omega) x)
          have B4 := below_setRow B3 hg (partTo cur (i * 6) (wC x))
          have z3 := size_of_block k1
          have z4 := size_of_block e3
          have hi6 : i * 6 + 6 ≤ cur.size := by omega
          clear hc hb3 c0 c1 c2 c3 c4 c5 R2 B2 k2 k3 B3
          go_wp2_with (refine wpList_store_part rfl 112 _ _ rfl rfl g (i * 6) #[.int .i64 x.id, .int .i64 x.kind, .int .i64 x.frm, .int .i64 x.too, .int .i64 x.lo, .int .i64 x.hi] rfl rfl 112 cur k1 (by kernel_rfl) hi6 (by kernel_rfl) ?_)
          go_roundw
          case rel => exact ⟨i + 1, j + 1, _, by omega, by go_num, by go_num, hy, RS, B4⟩
          case measure => simp [intOf]; omega
      · obtain rfl : j = l.length := by omega
        obtain ⟨cur, k1, k2, k3⟩ := hR.out
        have hdl := hI.out.len
        have hdn := Lib.hid hI.out.done
        obtain ⟨vs, hvs, hcl⟩ := run_clear_part (P := Tryz.prog) wr 24 112 0 _ Tryz.underlying24 Tryz.zeroDW 6 rfl (by intro v hv; simp [Value.cells] at hv; rcases hv with rfl | rfl | rfl | rfl | rfl | rfl <;> rfl) (by omega) g (i * 6) (l.length - i) (cap - i) (by omega) 112 cur k1 (by omega)
        have hij2 : i ≤ l.length := by omega
        have hcap2 : l.length ≤ cap := hcap
        clear hR
        go_wp2_with fail
        go_ret
        have hfl : (dk.take i).length = (l.filter fun x => !B x).length := by rw [hdn.out.1]
        rw [List.length_take, hdl, Nat.min_eq_left hij2] at hfl
        rw [← hfl]
        have hfr : RowAt wC 6 wr g 112 (dk.take i) := RowAt.front ⟨cur, k1, k2, k3⟩ wC_len i
        rw [← hdn.out.1]
        have hlt : (dk.take i).length = i := by rw [List.length_take, hdl]; omega
        obtain ⟨cur2, m1, m2, m3⟩ := hfr
        obtain rfl : cur2 = cur := by rw [k1] at m1; cases m1; rfl
        exact ⟨rfl, RowAt.part k1 m2 m3 (by rw [hlt]; exact Nat.le_refl _) (by omega), below_setRow hbw hg _⟩
end Go.Proofs.YtnedcclmfokdnaaGreat
namespace Go.Proofs.YtnedcclmfokdnaaGreat
open Go Go.RowKit Go.Shelf
theorem Tryz.infoFL : (Tryz.prog.info? 103).map (fun i => (i.zero, i.size, i.bytes)) = some (some (.agg #[.int .i64 0, .int .i64 0, .int .i64 0, .int .i64 0]), 4, 32) := by kernel_rfl
theorem rec_cellsL {w : World} {B cap : Nat} {ad : Addr} {l : List Rec} (h : Recs w B (.slice (some ad) l.length cap) l) : ∀ j u, (l.flatMap rC)[j]? = some u → w.cell? (ad.add j) = some u := fun j u hu => by
  obtain ⟨A', c', e, hl1, hl2, h3⟩ := h
  have hj : j < l.length * 4 := by have := (List.getElem?_eq_some_iff.1 hu).1; rwa [flat_length rC_len] at this
  obtain ⟨b, off, e2, hb, hc⟩ := h3 (by omega)
  have hi : j / 4 < l.length := by omega
  have hx := List.getElem?_eq_getElem hi
  have hq : j % 4 < (rC l[j / 4]).length := by rw [rC_len]; omega
  have hu' := List.getElem?_eq_getElem hq
  have ht := flat_at rC_len l (j / 4) _ (j % 4) _ hx hu'
  rw [show j / 4 * 4 + j % 4 = j by omega, hu] at ht
  have hcell := hc (j / 4) _ hx (j % 4) _ hu'
  rw [← Option.some.inj ht] at hcell
  simp only [Value.slice.injEq] at e
  rw [e2] at e
  obtain rfl := Option.some.inj e.1
  rw [show off + j / 4 * 4 + j % 4 = off + j by omega] at hcell
  simp only [Addr.add]
  by_cases h0 : j = 0
  · subst h0; simpa using hcell
  · simpa [h0] using hcell
theorem rec_oneL (l : List Rec) : ∀ u ∈ l.flatMap rC, u.oneCell' = true := fun u hu => by
  obtain ⟨x, _, hx⟩ := List.mem_flatMap.1 hu
  simp only [rC, List.mem_cons, List.not_mem_nil, or_false] at hx
  rcases hx with rfl | rfl | rfl | rfl <;> rfl
set_option maxRecDepth 100000 in
theorem clone_cL (v : Value) (l : List Rec) (w : World) (hv : Recs w w.heap.size v l) (hlen : l.length ≤ 5000) :
    Calls Tryz.prog 165 #[v] w fun e w' => ∃ u, e = .returned u ∧ w'.ownsRow w.heap.size 103 4 u l.length (l.flatMap rC) ∧ Below w.heap.size w w' := by
  obtain ⟨A, cap, rfl⟩ := hv.form1
  obtain ⟨i0, hi, hz0, hz1, hz2⟩ := info_parts Tryz.infoFL
  have HI := Lib.hid hi
  have HI0 := Lib.hid hz0
  have HI1 := Lib.hid hz1
  have HI2 := Lib.hid hz2
  have HV := Lib.hid hv
  clear hi hz0 hz1 hz2 hv
  cases A with
  | none =>
    obtain rfl : l = [] := by
      rcases l with _ | ⟨x, l⟩
      · rfl
      · obtain ⟨A', c', e, _, _, h3⟩ := HV.out
        obtain ⟨b, off, e2, _⟩ := h3 (by simp)
        simp only [Value.slice.injEq] at e
        rw [e2] at e; cases e.1
    have heqn : ∀ W, (binOp .eql 22 (.slice none 0 cap) (.slice none 0 0)).run Tryz.prog W = .ok (.bool true) W := fun W => run_eql_slice_nil W _ 103 none _ _ Tryz.underlying22
    go_enter Tryz.func165, Tryz.ntmps165
    go_wp2_with fail
    refine bodyPost_ret (v := .slice none 0 0) ?_ rfl ⟨_, rfl, World.ownsRow_nil _ _ _ _, Below.refl _ _⟩
    simp [results, Tryz.results165, go_sem]
  | some ad =>
    have heqn : ∀ W, (binOp .eql 22 (.slice (some ad) l.length cap) (.slice none 0 0)).run Tryz.prog W = .ok (.bool false) W := fun W => run_eql_slice_nil W _ 103 (some ad) _ _ Tryz.underlying22
    have hown : (w.alloc (.cells #[] 103)).ownsRow w.heap.size 103 4 (.slice (some ⟨w.heap.size, 0, none⟩) 0 0) 0 [] := World.ownsRow_lit w #[] 0 (Nat.le_refl _) (by omega) rfl
    have hb1 := below_alloc w (.cells #[] 103)
    have hnews := rec_cellsL (HV.out.later hb1)
    go_enter Tryz.func165, Tryz.ntmps165
    go_wp2_with (at_builtin; refine wpList_append_own _ rfl _ _ 22 rfl w.heap.size 103 i0 (.agg #[.int .i64 0, .int .i64 0, .int .i64 0, .int .i64 0]) 4 32 Tryz.underlying22 HI.out HI0.out HI1.out HI2.out rfl (by decide) _ 0 [] rfl hown ad l.length cap (l.flatMap rC) rfl (flat_length rC_len l) hnews (rec_oneL l) ?c3 ?c4 ?c5 ?_)
    case c3 => unfold maxLen; omega
    case c4 => omega
    case c5 => simp
    intro v' w1 hown' hgrow _
    have hB := hb1.grown hgrow (by simp) fun k e => by cases e; exact Nat.le_refl _
    clear hgrow hown hnews
    go_wp2_with fail
    refine bodyPost_ret (v := v') ?_ rfl ⟨_, rfl, hown', hB⟩
    simp [results, Tryz.results165, go_sem]
end Go.Proofs.YtnedcclmfokdnaaGreat
namespace Go.Proofs.YtnedcclmfokdnaaGreat
open Go Go.RowKit Go.Shelf
theorem Tryz.infoFD : (Tryz.prog.info? 104).map (fun i => (i.zero, i.size, i.bytes)) = some (some (.agg #[.int .i64 0, .int .i64 0, .int .i64 0, .int .i64 0]), 4, 32) := by kernel_rfl
theorem rec_cellsD {w : World} {B cap : Nat} {ad : Addr} {l : List Rec} (h : Recs w B (.slice (some ad) l.length cap) l) : ∀ j u, (l.flatMap rC)[j]? = some u → w.cell? (ad.add j) = some u := fun j u hu => by
  obtain ⟨A', c', e, hl1, hl2, h3⟩ := h
  have hj : j < l.length * 4 := by have := (List.getElem?_eq_some_iff.1 hu).1; rwa [flat_length rC_len] at this
  obtain ⟨b, off, e2, hb, hc⟩ := h3 (by omega)
  have hi : j / 4 < l.length := by omega
  have hx := List.getElem?_eq_getElem hi
  have hq : j % 4 < (rC l[j / 4]).length := by rw [rC_len]; omega
  have hu' := List.getElem?_eq_getElem hq
  have ht := flat_at rC_len l (j / 4) _ (j % 4) _ hx hu'
  rw [show j / 4 * 4 + j % 4 = j by omega, hu] at ht
  have hcell := hc (j / 4) _ hx (j % 4) _ hu'
  rw [← Option.some.inj ht] at hcell
  simp only [Value.slice.injEq] at e
  rw [e2] at e
  obtain rfl := Option.some.inj e.1
  rw [show off + j / 4 * 4 + j % 4 = off + j by omega] at hcell
  simp only [Addr.add]
  by_cases h0 : j = 0
  · subst h0; simpa using hcell
  · simpa [h0] using hcell
theorem rec_oneD (l : List Rec) : ∀ u ∈ l.flatMap rC, u.oneCell' = true := fun u hu => by
  obtain ⟨x, _, hx⟩ := List.mem_flatMap.1 hu
  simp only [rC, List.mem_cons, List.not_mem_nil, or_false] at hx
  rcases hx with rfl | rfl | rfl | rfl <;> rfl
set_option maxRecDepth 100000 in
theorem clone_cD (v : Value) (l : List Rec) (w : World) (hv : Recs w w.heap.size v l) (hlen : l.length ≤ 5000) :
    Calls Tryz.prog 166 #[v] w fun e w' => ∃ u, e = .returned u ∧ w'.ownsRow w.heap.size 104 4 u l.length (l.flatMap rC) ∧ Below w.heap.size w w' := by
  obtain ⟨A, cap, rfl⟩ := hv.form1
  obtain ⟨i0, hi, hz0, hz1, hz2⟩ := info_parts Tryz.infoFD
  have HI := Lib.hid hi
  have HI0 := Lib.hid hz0
  have HI1 := Lib.hid hz1
  have HI2 := Lib.hid hz2
  have HV := Lib.hid hv
  clear hi hz0 hz1 hz2 hv
  cases A with
  | none =>
    obtain rfl : l = [] := by
      rcases l with _ | ⟨x, l⟩
      · rfl
      · obtain ⟨A', c', e, _, _, h3⟩ := HV.out
        obtain ⟨b, off, e2, _⟩ := h3 (by simp)
        simp only [Value.slice.injEq] at e
        rw [e2] at e; cases e.1
    have heqn : ∀ W, (binOp .eql 23 (.slice none 0 cap) (.slice none 0 0)).run Tryz.prog W = .ok (.bool true) W := fun W => run_eql_slice_nil W _ 104 none _ _ Tryz.underlying23
    go_enter Tryz.func166, Tryz.ntmps166
    go_wp2_with fail
    refine bodyPost_ret (v := .slice none 0 0) ?_ rfl ⟨_, rfl, World.ownsRow_nil _ _ _ _, Below.refl _ _⟩
    simp [results, Tryz.results166, go_sem]
  | some ad =>
    have heqn : ∀ W, (binOp .eql 23 (.slice (some ad) l.length cap) (.slice none 0 0)).run Tryz.prog W = .ok (.bool false) W := fun W => run_eql_slice_nil W _ 104 (some ad) _ _ Tryz.underlying23
    have hown : (w.alloc (.cells #[] 104)).ownsRow w.heap.size 104 4 (.slice (some ⟨w.heap.size, 0, none⟩) 0 0) 0 [] := World.ownsRow_lit w #[] 0 (Nat.le_refl _) (by omega) rfl
    have hb1 := below_alloc w (.cells #[] 104)
    have hnews := rec_cellsD (HV.out.later hb1)
    go_enter Tryz.func166, Tryz.ntmps166
    go_wp2_with (at_builtin; refine wpList_append_own _ rfl _ _ 23 rfl w.heap.size 104 i0 (.agg #[.int .i64 0, .int .i64 0, .int .i64 0, .int .i64 0]) 4 32 Tryz.underlying23 HI.out HI0.out HI1.out HI2.out rfl (by decide) _ 0 [] rfl hown ad l.length cap (l.flatMap rC) rfl (flat_length rC_len l) hnews (rec_oneD l) ?c3 ?c4 ?c5 ?_)
    case c3 => unfold maxLen; omega
    case c4 => omega
    case c5 => simp
    intro v' w1 hown' hgrow _
    have hB := hb1.grown hgrow (by simp) fun k e => by cases e; exact Nat.le_refl _
    clear hgrow hown hnews
    go_wp2_with fail
    refine bodyPost_ret (v := v') ?_ rfl ⟨_, rfl, hown', hB⟩
    simp [results, Tryz.results166, go_sem]
end Go.Proofs.YtnedcclmfokdnaaGreat
namespace Go.Proofs.YtnedcclmfokdnaaGreat
open Go Go.RowKit Go.Shelf
theorem Tryz.infoFW : (Tryz.prog.info? 112).map (fun i => (i.zero, i.size, i.bytes)) = some (some (.agg #[.int .i64 0, .int .i64 0, .int .i64 0, .int .i64 0, .int .i64 0, .int .i64 0]), 6, 48) := by kernel_rfl
theorem rec_cellsW {w : World} {B cap : Nat} {ad : Addr} {l : List Wg} (h : Wgs w B (.slice (some ad) l.length cap) l) : ∀ j u, (l.flatMap wC)[j]? = some u → w.cell? (ad.add j) = some u := fun j u hu => by
  obtain ⟨A', c', e, hl1, hl2, h3⟩ := h
  have hj : j < l.length * 6 := by have := (List.getElem?_eq_some_iff.1 hu).1; rwa [flat_length wC_len] at this
  obtain ⟨b, off, e2, hb, hc⟩ := h3 (by omega)
  have hi : j / 6 < l.length := by omega
  have hx := List.getElem?_eq_getElem hi
  have hq : j % 6 < (wC l[j / 6]).length := by rw [wC_len]; omega
  have hu' := List.getElem?_eq_getElem hq
  have ht := flat_at wC_len l (j / 6) _ (j % 6) _ hx hu'
  rw [show j / 6 * 6 + j % 6 = j by omega, hu] at ht
  have hcell := hc (j / 6) _ hx (j % 6) _ hu'
  rw [← Option.some.inj ht] at hcell
  simp only [Value.slice.injEq] at e
  rw [e2] at e
  obtain rfl := Option.some.inj e.1
  rw [show off + j / 6 * 6 + j % 6 = off + j by omega] at hcell
  simp only [Addr.add]
  by_cases h0 : j = 0
  · subst h0; simpa using hcell
  · simpa [h0] using hcell
theorem rec_oneW (l : List Wg) : ∀ u ∈ l.flatMap wC, u.oneCell' = true := fun u hu => by
  obtain ⟨x, _, hx⟩ := List.mem_flatMap.1 hu
  simp only [wC, List.mem_cons, List.not_mem_nil, or_false] at hx
  rcases hx with rfl | rfl | rfl | rfl | rfl | rfl <;> rfl
set_option maxRecDepth 100000 in
theorem clone_cW (v : Value) (l : List Wg) (w : World) (hv : Wgs w w.heap.size v l) (hlen : l.length ≤ 5000) :
    Calls Tryz.prog 168 #[v] w fun e w' => ∃ u, e = .returned u ∧ w'.ownsRow w.heap.size 112 6 u l.length (l.flatMap wC) ∧ Below w.heap.size w w' := by
  obtain ⟨A, cap, rfl⟩ := hv.form1
  obtain ⟨i0, hi, hz0, hz1, hz2⟩ := info_parts Tryz.infoFW
  have HI := Lib.hid hi
  have HI0 := Lib.hid hz0
  have HI1 := Lib.hid hz1
  have HI2 := Lib.hid hz2
  have HV := Lib.hid hv
  clear hi hz0 hz1 hz2 hv
  cases A with
  | none =>
    obtain rfl : l = [] := by
      rcases l with _ | ⟨x, l⟩
      · rfl
      · obtain ⟨A', c', e, _, _, h3⟩ := HV.out
        obtain ⟨b, off, e2, _⟩ := h3 (by simp)
        simp only [Value.slice.injEq] at e
        rw [e2] at e; cases e.1
    have heqn : ∀ W, (binOp .eql 24 (.slice none 0 cap) (.slice none 0 0)).run Tryz.prog W = .ok (.bool true) W := fun W => run_eql_slice_nil W _ 112 none _ _ Tryz.underlying24
    go_enter Tryz.func168, Tryz.ntmps168
    go_wp2_with fail
    refine bodyPost_ret (v := .slice none 0 0) ?_ rfl ⟨_, rfl, World.ownsRow_nil _ _ _ _, Below.refl _ _⟩
    simp [results, Tryz.results168, go_sem]
  | some ad =>
    have heqn : ∀ W, (binOp .eql 24 (.slice (some ad) l.length cap) (.slice none 0 0)).run Tryz.prog W = .ok (.bool false) W := fun W => run_eql_slice_nil W _ 112 (some ad) _ _ Tryz.underlying24
    have hown : (w.alloc (.cells #[] 112)).ownsRow w.heap.size 112 6 (.slice (some ⟨w.heap.size, 0, none⟩) 0 0) 0 [] := World.ownsRow_lit w #[] 0 (Nat.le_refl _) (by omega) rfl
    have hb1 := below_alloc w (.cells #[] 112)
    have hnews := rec_cellsW (HV.out.later hb1)
    go_enter Tryz.func168, Tryz.ntmps168
    go_wp2_with (at_builtin; refine wpList_append_own _ rfl _ _ 24 rfl w.heap.size 112 i0 (.agg #[.int .i64 0, .int .i64 0, .int .i64 0, .int .i64 0, .int .i64 0, .int .i64 0]) 6 48 Tryz.underlying24 HI.out HI0.out HI1.out HI2.out rfl (by decide) _ 0 [] rfl hown ad l.length cap (l.flatMap wC) rfl (flat_length wC_len l) hnews (rec_oneW l) ?c3 ?c4 ?c5 ?_)
    case c3 => unfold maxLen; omega
    case c4 => omega
    case c5 => simp
    intro v' w1 hown' hgrow _
    have hB := hb1.grown hgrow (by simp) fun k e => by cases e; exact Nat.le_refl _
    clear hgrow hown hnews
    go_wp2_with fail
    refine bodyPost_ret (v := v') ?_ rfl ⟨_, rfl, hown', hB⟩
    simp [results, Tryz.results168, go_sem]
end Go.Proofs.YtnedcclmfokdnaaGreat
