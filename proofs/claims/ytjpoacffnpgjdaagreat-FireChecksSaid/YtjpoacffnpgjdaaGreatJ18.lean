/- Texts joined: FProgBurnB FProgBurnt. -/
import Derived.Test.YtjpoacffnpgjdaaGreatJ15
import Derived.Test.YtjpoacffnpgjdaaGreatJ17
import Derived.Laws.EntriesVeiled
/- How something burnt: burn, by the program. -/
namespace Go.Proofs.YtjpoacffnpgjdaaGreat
open Go Go.RowKit Go.Shelf
attribute [local go_sem] Oper.semAt_some

def Spn.pair (r : Spn) : Int × Int := (r.lo, r.hi)
theorem Sl.map {α β : Type} {c : α → List Value} {d : β → List Value} {s : Nat} {w : World} {B : Nat} {v : Value} {l : List α} (h : Sl c s w B v l) (f : α → β) (hf : ∀ x, c x = d (f x)) : Sl d s w B v (l.map f) := by
  obtain ⟨A, cap, e, h1, h2, h3⟩ := h
  refine ⟨A, cap, by rw [List.length_map]; exact e, by rw [List.length_map]; exact h1, by rw [List.length_map]; exact h2, fun hn => ?_⟩
  obtain ⟨b, off, e2, hb, hc⟩ := h3 (by simpa using hn)
  refine ⟨b, off, e2, hb, fun i x hx j u hu => ?_⟩
  rw [List.getElem?_map] at hx
  cases hl : l[i]? with
  | none => rw [hl] at hx; cases hx
  | some y =>
    rw [hl] at hx
    obtain rfl : f y = x := by simpa using hx
    exact hc i y hl j u (by rw [hf]; exact hu)
theorem firstL_map {α β : Type} {ahead : α → α → Bool} {ahead' : β → β → Bool} (f : α → β) (h : ∀ a b, ahead' (f a) (f b) = ahead a b) (l : List α) : firstL ahead' (l.map f) = (firstL ahead l).map f := by
  refine snoc_ind (M := fun l => firstL ahead' (l.map f) = (firstL ahead l).map f) rfl (fun l x ih => ?_) l
  rw [List.map_append, List.map_singleton, firstL_snoc, firstL_snoc, ih]
  cases firstL ahead l with
  | none => rfl
  | some b => simp only [Option.map_some, h]; split <;> rfl
theorem burn_bounds (need : Int) (hn : 0 ≤ need ∧ need ≤ 1500) (l : List Int) : (∀ x ∈ l, 0 ≤ x ∧ x ≤ 1500) → 0 ≤ (burnF need l).b.hours ∧ (burnF need l).b.hours ≤ l.length ∧ 0 ≤ (burnF need l).b.sum ∧ (burnF need l).b.sum ≤ 1500 * l.length := by
  refine snoc_ind (M := fun l => (∀ x ∈ l, 0 ≤ x ∧ x ≤ 1500) → 0 ≤ (burnF need l).b.hours ∧ (burnF need l).b.hours ≤ l.length ∧ 0 ≤ (burnF need l).b.sum ∧ (burnF need l).b.sum ≤ 1500 * l.length) (fun _ => by simp [burnF]) (fun l x ih hx => ?_) l
  have h1 := ih fun y hy => hx y (by simp [hy])
  have h2 := hx x (by simp)
  rw [burnF_snoc, List.length_append]
  unfold burnStep
  simp only [List.length_cons, List.length_nil]
  by_cases c : x < need
  · rw [if_pos c]; dsimp only; omega
  · rw [if_neg c]; dsimp only; omega
set_option maxRecDepth 100000 in
set_option maxHeartbeats 4000000 in
theorem burn_c (v : Value) (hs : List Int) (need : Int) (w : World) (hv : Ints w w.heap.size v hs) (hlen : hs.length ≤ 5000) (hr : ∀ x ∈ hs, 0 ≤ x ∧ x ≤ 1500) (hn : 0 ≤ need ∧ need ≤ 1500) :
    Calls Tryz.prog 96 #[v, .int .i64 need] w fun e w' => e = .returned (brnV (burnI hs need)) ∧ Below w.heap.size w w' := by
  have hrw := fun W (hb : Below w.heap.size w W) => rows_c v hs need W (hv.later hb) hlen
  obtain ⟨A, cap, rfl, _, hn2, hat⟩ := hv.open_
  have H := Lib.hid hat
  clear hat hv
  have HRW := Lib.hid hrw
  have HBD := Lib.hid (fun j : Nat => burn_bounds need hn (hs.take j) fun x hx => hr x (List.mem_of_mem_take hx))
  have HLG := Lib.hid (rows_longest hs need)
  have HRG := Lib.hid (row_inv hs need hs.length (Nat.le_refl _)).rng
  have HRI := Lib.hid hr
  clear hrw hr
  obtain ⟨BI, hBI⟩ : ∃ b, b = burnI hs need := ⟨_, rfl⟩
  rw [← hBI]
  have HBI := Lib.hid hBI
  clear hBI
  obtain ⟨q0, q1, qs, qb⟩ := two_new' w (.cells #[.int .i64 0, .int .i64 0, .int .i64 0] 74) (.cells #[.int .i64 0, .int .i64 0, .int .i64 0] 74)
  go_enter Tryz.func96, Tryz.ntmps96
  go_wp2_with fail
  generalize (w.alloc _).alloc _ = W2 at q0 q1 qs qb ⊢
  go_loopw [13] (fun i wr => ∃ j : Nat, j ≤ hs.length ∧ i = .int .i64 j ∧ wr.heap[w.heap.size + 1]? = some (.cells #[.int .i64 (burnF need (hs.take j)).b.hours, .int .i64 0, .int .i64 (burnF need (hs.take j)).b.sum] 74) ∧ wr.heap[w.heap.size]? = some (.cells #[.int .i64 0, .int .i64 0, .int .i64 0] 74) ∧ Below w.heap.size w wr ∧ Hid (wr.heap.size = w.heap.size + 2)) (fun i _ => hs.length - (intOf i).toNat)
  case atStart => exact ⟨0, Nat.zero_le _, rfl, by simpa [burnF] using q1, q0, qb, qs⟩
  case round =>
    obtain ⟨j, hj, rfl, hbk, hzb, hbw, hsz⟩ := hrel
    have hbd := HBD.out j
    by_cases hlt : j < hs.length
    · obtain ⟨b, off, x, rfl, hb, hx0, c0⟩ := H.out j hlt
      have hxr := HRI.out x (List.mem_of_getElem? hx0)
      have d0 := (hbw.cell (p := ⟨b, off + j, none⟩) hb).trans c0
      have hz1 : b < wr.heap.size := Nat.lt_of_lt_of_le hb hbw.size
      have hst : Hid (burnF need (hs.take (j + 1)) = burnStep need (burnF need (hs.take j)) x) := by show _ = _; rw [take_snoc hx0, burnF_snoc]
      have htl : (hs.take j).length = j := by rw [List.length_take]; omega
      rw [htl] at hbd
      clear htl hx0 c0
      obtain ⟨HH, hHH⟩ : ∃ h, h = (burnF need (hs.take j)).b.hours := ⟨_, rfl⟩
      obtain ⟨SS, hSS⟩ : ∃ h, h = (burnF need (hs.take j)).b.sum := ⟨_, rfl⟩
      rw [← hHH, ← hSS] at hbd hbk
      have HHH := Lib.hid hHH
      have HSS := Lib.hid hSS
      clear hHH hSS
      obtain ⟨hb1, hb2, hb3, hb4⟩ := hbd
      by_cases hc : x < need
      · have d1 : decide (x ≥ need) = false := decide_eq_false (by omega)
        have hz : Hid (burnF need (hs.take (j + 1)) = ⟨0, (burnF need (hs.take j)).b⟩) := by show _ = _; rw [hst.out]; unfold burnStep; rw [if_pos hc]
        clear hc hst
        go_wp2_with fail
        go_roundw
        case rel => exact ⟨j + 1, by omega, by go_num, by rw [hz.out]; dsimp only; rw [← HHH.out, ← HSS.out]; exact hbk, hzb, hbw, hsz⟩
        case measure => simp [intOf]; omega
      · have d1 : decide (x ≥ need) = true := decide_eq_true (by omega)
        have hz1' : Hid ((burnF need (hs.take (j + 1))).b.hours = HH + 1) := by show _ = _; rw [hst.out, HHH.out]; unfold burnStep; rw [if_neg hc]
        have hz2' : Hid ((burnF need (hs.take (j + 1))).b.sum = SS + (x - need)) := by show _ = _; rw [hst.out, HSS.out]; unfold burnStep; rw [if_neg hc]; dsimp only; omega
        clear hst
        have e0 := Joins.cell_of_block hbk 0
        have e2 := Joins.cell_of_block hbk 2
        have f0 := Joins.unfrozen_of_block hbk 0
        have f2 := Joins.unfrozen_of_block hbk 2
        have hj5 : (j : Int) ≤ 5000 := by omega
        have n1 : b ≠ w.heap.size + 1 := by omega
        go_wp2_with fail
        go_roundw
        case rel =>
          refine ⟨j + 1, by omega, by go_num, ?_, ?_, below_set (below_set hbw (by omega)) (by omega), ?_⟩
          · rw [hz1'.out, hz2'.out]
            have k := Joins.block_setCell (i := 2) (Joins.block_setCell (i := 0) hbk (.int .i64 (HH + 1))) (.int .i64 (SS + (x - need)))
            simpa using k
          · exact (put_other _ (by omega)).trans ((put_other _ (by omega)).trans hzb)
          · show _ = _; simp; exact hsz.out
        case measure => simp [intOf]; omega
    · obtain rfl : j = hs.length := by omega
      rw [List.take_length] at hbk hbd
      have HB0 : Hid (BI.hours = (burnF need hs).b.hours ∧ BI.sum = (burnF need hs).b.sum) := by show _ ∧ _; rw [HBI.out]; exact ⟨rfl, rfl⟩
      rw [← HB0.out.1, ← HB0.out.2] at hbk
      clear hbd
      have hrl := rows_len hs need (Nat.le_refl hs.length)
      have y8 := heap_alloc_new wr (.cells #[.func (.func 126) #[] #[]] 177)
      have b8 := below_alloc wr (.cells #[.func (.func 126) #[] #[]] 177)
      go_wp2_with fail
      generalize wr.alloc (.cells #[.func (.func 126) #[] #[]] 177) = W8 at y8 b8 ⊢
      have B8 := below_then hbw b8
      have n8 := b8.size
      have z1 := size_of_block hbk
      refine (HRW.out W8 B8).mono ?_
      rintro e W9 ⟨u9, rfl, hown, hb9⟩
      have n9 := hb9.size
      obtain ⟨A9, cap9, rfl⟩ := own_form hown
      have S9 := (Sl.of_own spnC_len hown (by unfold rowsI; omega)).map Spn.pair (d := pairC) (fun _ => rfl)
      clear hown
      go_wp2_with fail
      refine (valuesSp_c A9 _ cap9 W9).mono ?_
      rintro e W10 ⟨rfl, hW10⟩
      have b10 : Below W9.heap.size W9 W10 := by rw [hW10]; exact below_alloc _ _
      have y10 : W10.heap[W9.heap.size]? = some (.cells #[.slice A9 (rowsI hs need).length cap9] 80) := by rw [hW10]; exact heap_alloc_new _ _
      clear hW10
      have y8' := ((below_then hb9 b10).block _ (size_of_block y8)).trans y8
      have B10 := below_then B8 (below_then hb9 b10)
      have hF := firstS_c _ _ _ _ W10 (valuesSp_g (B := 0) (U := fireU) (S9.later b10) (Nat.le_refl _) y10) (burn2_t (fun x hx => by
        obtain ⟨r, hr, rfl⟩ := List.mem_map.1 hx
        have := HRG.out r hr
        have h5 : (hs.length : Int) ≤ 5000 := by omega
        exact ⟨this.1, this.2.1, by show r.hi ≤ 5000; omega⟩) y8')
      rw [firstL_map (ahead := fun a b : Spn => decide (b.len < a.len)) Spn.pair (fun _ _ => rfl)] at hF
      obtain ⟨o, ho⟩ : ∃ o, o = firstL (fun a b : Spn => decide (b.len < a.len)) (rowsI hs need) := ⟨_, rfl⟩
      rw [← ho] at hF
      have HO : Hid ((o = none ∧ BI.row = 0) ∨ ∃ r, o = some r ∧ r.hi - r.lo + 1 = BI.row ∧ r ∈ rowsI hs need) := by
        show _ ∨ _
        rw [HBI.out, ho]
        rcases HLG.out with ⟨h1, h2⟩ | ⟨r, h1, h2⟩
        · exact .inl ⟨by rw [h1]; rfl, h2⟩
        · exact .inr ⟨r, h1, h2, firstL_mem h1⟩
      clear ho S9 y10
      have Q0 := ((below_then b8 (below_then hb9 b10)).block _ (size_of_block hzb)).trans hzb
      have Q1 := ((below_then b8 (below_then hb9 b10)).block _ z1).trans hbk
      clear hzb hbk y8 hb9 b10 b8 hbw B8
      obtain ⟨bh, br, bs⟩ := BI
      simp only at Q0 Q1 HO HB0
      go_wp2_with fail
      refine hF.mono ?_
      rintro e W11 ⟨rfl, hb11⟩
      have q8 := (hb11.block _ (size_of_block y8')).trans y8'
      have q0 := (hb11.block _ (size_of_block Q0)).trans Q0
      have q1 := (hb11.block _ (size_of_block Q1)).trans Q1
      have B11 := below_then B10 hb11
      have n11 := hb11.size
      clear hF y8' Q0 Q1 hb11 B10
      rcases HO.out with ⟨rfl, h0⟩ | ⟨r, rfl, hr, hm⟩
      · simp only [Option.map_none, bestP, Option.isSome_none]
        subst h0
        have b12 := below_alloc W11 (.cells #[.int .i64 0, .int .i64 0] 54)
        have p0 := (b12.block _ (size_of_block q0)).trans q0
        have p1 := (b12.block _ (size_of_block q1)).trans q1
        have B12 := below_then B11 b12
        have c0 := Joins.cell_of_block p1 0
        have c1 := Joins.cell_of_block p1 1
        have c2 := Joins.cell_of_block p1 2
        have HP := Lib.hid (fun j : Nat => cell_setRow_same (W11.alloc (.cells #[.int .i64 0, .int .i64 0] 54)) w.heap.size j _ #[.int .i64 bh, .int .i64 0, .int .i64 bs] _ _ p0)
        have BF := below_setRow B12 (Nat.le_refl w.heap.size) #[.int .i64 bh, .int .i64 0, .int .i64 bs]
        clear q0 q1 q8 b12 HO HB0 HBI HRW HRG HLG HRI HBD
        go_wp2_with (refine wpList_store_rowTo rfl 74 _ _ rfl rfl w.heap.size #[.int .i64 bh, .int .i64 0, .int .i64 bs] rfl rfl 74 _ p0 (by kernel_rfl) rfl (by kernel_rfl) ?_)
        refine bodyPost_ret (v := .agg #[.int .i64 bh, .int .i64 0, .int .i64 bs]) ?_ rfl ⟨rfl, BF⟩
        simp [results, Tryz.results96, go_sem, HP.out]
      · simp only [Option.map_some, bestP, Option.isSome_some]
        have hrg := HRG.out r hm
        have h5 : (hs.length : Int) ≤ 5000 := by omega
        obtain ⟨rl, rh⟩ := r
        simp only [Spn.pair] at hrg hr ⊢
        have hC1 := fun W => burn1_c (rl, rh) W ⟨hrg.1, hrg.2.1, by simp only; omega⟩
        rw [hr] at hC1
        have b12 := below_alloc W11 (.cells #[.int .i64 rl, .int .i64 rh] 54)
        have e12 := heap_alloc_new W11 (.cells #[.int .i64 rl, .int .i64 rh] 54)
        have p0 := (b12.block _ (size_of_block q0)).trans q0
        have p1 := (b12.block _ (size_of_block q1)).trans q1
        have p8 := (b12.block _ (size_of_block q8)).trans q8
        have B12 := below_then B11 b12
        have c8 := Joins.cell_of_block p8 0
        have s0 := Joins.cell_of_block e12 0
        have s1 := Joins.cell_of_block e12 1
        clear q0 q1 q8 b12 HO HB0 HBI HRW HRG HLG HRI HBD hrg hm
        go_wp2_with fail
        refine (hC1 _).mono ?_
        rintro e W13 ⟨rfl, hb13⟩
        have r0 := (hb13.block _ (size_of_block p0)).trans p0
        have r1 := (hb13.block _ (size_of_block p1)).trans p1
        have B13 := below_then B12 hb13
        clear hC1 hb13 p0 p1 p8 B12 c8 s0 s1 e12
        have f1 := Joins.unfrozen_of_block r1 1
        have k1 := Joins.cell_of_block r1 1
        have R1 := Joins.block_setCell (i := 1) r1 (.int .i64 br)
        have R0 := (put_other (i := 1) (.int .i64 br) (show w.heap.size ≠ w.heap.size + 1 by omega)).trans r0
        have B14 := below_set (i := 1) (v := .int .i64 br) B13 (show w.heap.size ≤ w.heap.size + 1 by omega)
        have c0 := Joins.cell_of_block R1 0
        have c1 := Joins.cell_of_block R1 1
        have c2 := Joins.cell_of_block R1 2
        have HP := Lib.hid (fun j : Nat => cell_setRow_same (W13.setCell ⟨w.heap.size + 1, 1, none⟩ (.int .i64 br)) w.heap.size j _ #[.int .i64 bh, .int .i64 br, .int .i64 bs] _ _ R0)
        have BF := below_setRow B14 (Nat.le_refl w.heap.size) #[.int .i64 bh, .int .i64 br, .int .i64 bs]
        go_wp2_with (refine wpList_store_rowTo rfl 74 _ _ rfl rfl w.heap.size #[.int .i64 bh, .int .i64 br, .int .i64 bs] rfl rfl 74 _ R0 (by kernel_rfl) rfl (by kernel_rfl) ?_)
        refine bodyPost_ret (v := .agg #[.int .i64 bh, .int .i64 br, .int .i64 bs]) ?_ rfl ⟨rfl, BF⟩
        simp [results, Tryz.results96, go_sem, HP.out]
end Go.Proofs.YtjpoacffnpgjdaaGreat
/- Burnt: by the program (written by tools/genburnt.py). -/
namespace Go.Proofs.YtjpoacffnpgjdaaGreat
open Go Go.RowKit Go.Shelf
attribute [local go_sem] Oper.semAt_some Rel RelAt RelUpon

set_option maxRecDepth 100000 in
set_option maxHeartbeats 8000000 in
theorem Burnt_c (f : Fi) (vl v : Value) (l : List Spt) (need : Int) (w : World) (hl : Lks w w.heap.size vl f.ls) (hv : Spts w w.heap.size v l) :
    Calls Tryz.prog 38 #[fiV f vl, v, .int .i64 need] w fun e w' => e = .returned (.tuple #[brnV (leastR f l need), brnV (mostR f l need), .int .i64 (sunkE f l need)]) ∧ Below w.heap.size w w' := by
  obtain ⟨A, cap, rfl⟩ := hl.form
  obtain ⟨q0, q1, q2, qs, qb⟩ := three_new w (.cells #[.int .i64 f.rise, .int .i64 f.fall, .int .i64 f.up, .int .i64 f.down, .slice A f.ls.length cap] 24) (.cells #[.int .i64 0, .int .i64 0, .int .i64 0] 74) (.cells #[.int .i64 0, .int .i64 0, .int .i64 0] 74)
  have hK' := fun ve errs W (hb : Below w.heap.size w W) => known_c f (.slice A f.ls.length cap) ve errs W (hl.later hb)
  obtain ⟨b1, hb1⟩ : ∃ b, b = leastR f l need := ⟨_, rfl⟩
  obtain ⟨b2, hb2⟩ : ∃ b, b = mostR f l need := ⟨_, rfl⟩
  rw [← hb1, ← hb2]
  have HB1 := Lib.hid hb1
  have HB2 := Lib.hid hb2
  clear hb1 hb2
  unfold fiV at hK' ⊢
  go_enter Tryz.func38, Tryz.ntmps38
  go_wp2_with fail
  have QS := Lib.hid qs
  clear qs
  generalize ((w.alloc _).alloc _).alloc _ = W3 at q0 q1 q2 QS qb ⊢
  generalize hpe1 : pathI l = pe1
  generalize hpe2 : heatE need = pe2
  refine wp_region_looseT [0, 1, 3] (.alt (.one 2 (.one 4 (.one 5 (.one 6 (.one 7 .done))))) (.one 4 (.one 2 (.one 5 (.one 6 (.one 7 .done)))))) [11] [8, 9, 10] [12, 13] [some 9] [.cells #[.int .i64 0, .int .i64 0, .int .i64 0, .int .i64 0, .nilFunc] 114] (by kernel_rfl) (by kernel_rfl) (by intro c a d v w h; cases d <;> exact h) (by intro c a d v w h; cases d <;> exact h) rfl ?_ ?_
  · intro r i hri
    match r, hri with
    | 0, hri => cases hri; exact ⟨_, _, rfl, rfl, rfl, rfl, fun a u => by simp [execOp, go_sem, ptrV]⟩
  · intro u hu
    replace q0 := (hu.block _ (size_of_block q0)).trans q0
    replace q1 := (hu.block _ (size_of_block q1)).trans q1
    replace q2 := (hu.block _ (size_of_block q2)).trans q2
    replace qb := below_then qb hu
    have zq0 := size_of_block q0
    have cq00 := Joins.cell_of_block q0 0
    have cq01 := Joins.cell_of_block q0 1
    have cq02 := Joins.cell_of_block q0 2
    have cq03 := Joins.cell_of_block q0 3
    have cq04 := Joins.cell_of_block q0 4
    have zq1 := size_of_block q1
    have zq2 := size_of_block q2
    have hcg : ∀ (g : Gr u) b o, b < u.heap.size → g.val.cell? ⟨b, o, none⟩ = u.cell? ⟨b, o, none⟩ := fun g b o h => (bcell g.b).1 b o h
    simp only [pick, List.filterMap_cons, List.filterMap_nil, List.getElem?_toArray, List.getElem?_cons_succ, List.getElem?_cons_zero]
    iterate 3 (refine wpRel_step (fun K hK => ?_); go_simp; refine hK _ ?_; clear hK K)
    refine wpRel_nil fun V0 hb0 => ?_
    clear hcg cq00 cq01 cq02 cq03 cq04
    have C0 := below_then qb hb0
    have D0 := hb0
    refine wpTr_alt ?_ ?_
    · refine wpTr_step rfl rfl fun K hK => ?_
      go_simp
      refine (CheckPath_c v l V0 (hv.later C0)).mono ?_
      rintro e X0 ⟨rfl, hx0⟩
      rw [hpe1]
      refine hK _ _ hx0 fun V1 hu1 => ?_
      clear hK K
      have S1 := below_then hx0 hu1
      have C1 := below_then C0 S1
      have D1 := below_then D0 S1
      refine wpTr_step rfl rfl fun K hK => ?_
      go_simp
      refine hK _ _ (below_alloc _ _) fun V2 hu2 => ?_
      clear hK K
      have yn := (hu2.block _ (by simp)).trans (heap_alloc_new V1 (.cells #[.int .i64 need] 3))
      have S2 := below_then (below_alloc V1 (.cells #[.int .i64 need] 3)) hu2
      have C2 := below_then C1 S2
      have D2 := below_then D1 S2
      refine wpTr_step rfl rfl fun K hK => ?_
      go_simp
      refine (checkHeats_c _ [need] V2 (ints1 yn)).mono ?_
      rintro e X2 ⟨rfl, hx2⟩
      rw [show (if [need].all heatB then (0 : Int) else 1) = heatE need by simp [heatE], hpe2]
      refine hK _ _ hx2 fun V3 hu3 => ?_
      clear hK K
      have S3 := below_then hx2 hu3
      have C3 := below_then C2 S3
      have D3 := below_then D2 S3
      replace yn := (S3.block _ (size_of_block yn)).trans yn
      refine wpTr_step rfl rfl fun K hK => ?_
      go_simp
      refine hK _ _ (below_alloc _ _) fun V4 hu4 => ?_
      clear hK K
      have ye := (hu4.block _ (by simp)).trans (heap_alloc_new V3 (.cells #[.int .i64 pe1, .int .i64 pe2] 30))
      have S4 := below_then (below_alloc V3 (.cells #[.int .i64 pe1, .int .i64 pe2] 30)) hu4
      have C4 := below_then C3 S4
      have D4 := below_then D3 S4
      replace yn := (S4.block _ (size_of_block yn)).trans yn
      refine wpTr_step rfl rfl fun K hK => ?_
      go_simp
      refine (hK' _ [pe1, pe2] V4 C4 (ints2 ye)).mono ?_
      rintro e X4 ⟨sv, rfl, hz, hn, hx4⟩
      refine hK _ _ hx4 fun V5 hu5 => ?_
      clear hK K
      have S5 := below_then hx4 hu5
      have C5 := below_then C4 S5
      have D5 := below_then D4 S5
      replace yn := (S5.block _ (size_of_block yn)).trans yn
      replace ye := (S5.block _ (size_of_block ye)).trans ye
      obtain ⟨row, hrow, h5, h1c⟩ := sight_row hz hn
      have N10 : Hid (∀ k, k < X4.heap.size → V5.heap[k]? = X4.heap[k]?) := fun k h => hu5.block k h
      have Qq0 := (D5.block _ zq0).trans q0
      have Qq1 := (D5.block _ zq1).trans q1
      have Qq2 := (D5.block _ zq2).trans q2
      have n10 := hu5.size
      have n9 := hx4.size
      clear yn ye C0 C1 C2 C3 C4 D0 D1 D2 D3 D4 D5 S1 S2 S3 S4 S5 hu1 hu2 hu3 hu4 hu5 hK' hb0 q0 q1 q2
      have HZ := Lib.hid hz
      have HN := Lib.hid hn
      have HROW := Lib.hid hrow
      clear hz hn
      generalize hke : knownE f [pe1, pe2] = ke at HZ HN ⊢
      rw [hrow]
      refine wpPure_step (.tuple #[.agg row, .int .i64 ke]) rfl (fun u => rfl) ?_
      refine wpPure_step (.agg row) rfl (fun u => rfl) ?_
      refine wpPure_step (.int .i64 ke) rfl (fun u => rfl) ?_
      intro ks hk hall hH
      obtain ⟨k1, rfl⟩ : ∃ k1, ks = [some k1] := by
        match ks, hk with
        | [none], _ => exact absurd rfl (hall 0)
        | [some k1], _ => exact ⟨k1, rfl⟩
      obtain ⟨o1, ge1, lt1⟩ := hH.obj 0 k1 rfl
      have ou := hH.out 0 k1 rfl (V4.heap.size, X4.heap.size) (by simp)
      rw [show ([Obj.cells #[.int .i64 0, .int .i64 0, .int .i64 0, .int .i64 0, .nilFunc] 114])[0]? = some (.cells #[.int .i64 0, .int .i64 0, .int .i64 0, .int .i64 0, .nilFunc] 114) from rfl] at o1
      rw [QS.out] at ge1
      clear hH hall hk
      have hkq0 : k1 ≠ w.heap.size := by omega
      have hkq1 : k1 ≠ w.heap.size + 1 := by omega
      have hkq2 : k1 ≠ w.heap.size + 1 + 1 := by omega
      show wpList _ _ _ _ _ _
      simp only [deco, ptrV]
      refine wpList_store_rowTo rfl 114 _ _ rfl rfl k1 row rfl rfl 114 _ o1 (by rw [Tryz.zSightSize, h5]) (by rw [h5]; rfl) h1c ?_
      have r1 := setRow_heap V5 k1 _ row _ _ o1
      have rq0 := (setRow_other V5 k1 (w.heap.size) row (Ne.symm hkq0)).trans Qq0
      have rq1 := (setRow_other V5 k1 (w.heap.size + 1) row (Ne.symm hkq1)).trans Qq1
      have rq2 := (setRow_other V5 k1 (w.heap.size + 1 + 1) row (Ne.symm hkq2)).trans Qq2
      have B11 := below_setRow C5 (show w.heap.size ≤ k1 by omega) row
      have K11 : Hid (∀ k, V4.heap.size ≤ k → k < X4.heap.size → (V5.setRow k1 row).heap[k]? = X4.heap[k]?) := fun k h1 h2 => (setRow_other V5 k1 k row (by omega)).trans (N10.out k h2)
      have z11 := size_setRow V5 k1 row
      have n11 : X4.heap.size ≤ (V5.setRow k1 row).heap.size := by omega
      generalize V5.setRow k1 row = W11 at r1 rq0 rq1 rq2 B11 K11 n11 z11 ⊢
      clear o1 Qq0 Qq1 Qq2 C5 N10 z11 n10 n9 ou lt1
      have HE : Hid (sunkE f l need = ke) := by show sunkE f l need = ke; unfold sunkE; rw [hpe1, hpe2, hke]
      by_cases h0 : ke = 0
      · obtain ⟨S, hS, hKn⟩ := HZ.out h0
        obtain ⟨gf, lb, hform⟩ := hKn.form
        have hgv := hKn.gives gf lb hform W11 (fun k h1 h2 => K11.out k h1 h2) n11
        obtain rfl : row = #[.int .i64 f.rise, .int .i64 f.fall, .int .i64 f.up, .int .i64 f.down, .func (.func gf) #[] lb] := by
          have e := HROW.out.symm.trans hform
          simpa [siV] using e
        subst h0
        have hsp : l.length ≤ 200 ∧ ∀ p ∈ l, spotB p = true := by
          have h1 := (first2.1 (known_zero hke).2.1).1
          rw [← hpe1] at h1
          exact path_zero h1
        have hn2 : 0 ≤ need ∧ need ≤ 1500 := by
          have h1 := (first2.1 (known_zero hke).2.1).2
          rw [← hpe2] at h1
          exact heat_iff.1 (heatE_iff.1 h1)
        have HV1 : Hid (burnI (l.map (endLo f f.ls)) need = b1) := by show _ = b1; rw [HB1.out]; unfold leastR lowsI; rw [if_pos HE.out]
        have HV2 : Hid (burnI (l.map (endHi f f.ls)) need = b2) := by show _ = b2; rw [HB2.out]; unfold mostR highsI; rw [if_pos HE.out]
        have hlow := fun W => low_c f gf lb W
        have hhigh := fun W => high_c f gf lb W
        unfold siV at hlow hhigh
        have HSP := Lib.hid hsp
        have HN2 := Lib.hid hn2
        have HS := Lib.hid hS
        have HG := Lib.hid hgv
        clear hgv hKn hform HZ HN HROW K11 hS hpe1 hpe2 hke h5 h1c hsp hn2
        go_wp2_with fail
        refine wp_region_looseM [0, 4, 6, 10] [1, 7] (.one 2 (.one 3 (.one 5 (.one 8 (.one 9 (.one 11 .done)))))) [] [] [12, 13, 14] [] [] (by kernel_rfl) (by kernel_rfl) (by intro c a d v w h; cases d <;> exact h) (by intro c a d v w h; cases d <;> exact h) rfl (fun r i h => by simp at h) ?_
        simp only [pick, List.filterMap_cons, List.filterMap_nil, List.getElem?_toArray, List.getElem?_cons_succ, List.getElem?_cons_zero]
        refine wpPure_step v rfl (fun u => rfl) ?_
        refine wpPure_step (.int .i64 need) rfl (fun u => rfl) ?_
        refine wpPure_step v rfl (fun u => rfl) ?_
        refine wpPure_step (.int .i64 need) rfl (fun u => rfl) ?_
        intro u12 hu12
        have zr1 := size_of_block r1
        have t1 := (hu12.block _ zr1).trans r1
        have zt1 := size_of_block t1
        have s0 := Joins.cell_of_block t1 0
        have s1 := Joins.cell_of_block t1 1
        have s2 := Joins.cell_of_block t1 2
        have s3 := Joins.cell_of_block t1 3
        have s4 := Joins.cell_of_block t1 4
        have hcg : ∀ (g : Gr u12) b o, b < u12.heap.size → g.val.cell? ⟨b, o, none⟩ = u12.cell? ⟨b, o, none⟩ := fun g b o h => (bcell g.b).1 b o h
        iterate 2 (refine wpRel_step (fun K hK => ?_); go_simp; refine hK _ ?_; clear hK K)
        refine wpRel_nil fun V20 hb20 => ?_
        clear hcg s0 s1 s2 s3 s4 t1 zt1
        have D20 := below_then hu12 hb20
        have C20 := below_then B11 D20
        refine wpTr_step rfl rfl fun K hK => ?_
        go_simp
        refine (hlow V20).mono ?_
        rintro e X20 ⟨rfl, hX20⟩
        have y20 : X20.heap[V20.heap.size]? = some (.cells #[.int .i64 f.rise, .int .i64 f.fall, .int .i64 f.up, .int .i64 f.down, .func (.func gf) #[] lb] 114) := by rw [hX20]; exact heap_alloc_new _ _
        have hx20 : Below V20.heap.size V20 X20 := by rw [hX20]; exact below_alloc _ _
        clear hX20
        refine hK _ _ hx20 fun V21 hu21 => ?_
        clear hK K
        have y20' := (hu21.block _ (size_of_block y20)).trans y20
        have C21 := below_then C20 (below_then hx20 hu21)
        have D21 := below_then D20 (below_then hx20 hu21)
        have g21 := (HG.out.later D21).more D21.size
        refine wpTr_step rfl rfl fun K hK => ?_
        go_simp
        refine (heats_c (endLo f f.ls) (lowId f f.ls) v l _ _ V21 (hv.later C21) (by have := HSP.out.1; omega) (enters_of Tryz.func120 (by kernel_rfl) rfl) fun p hp W hW => low1_c f S f.ls gf lb p V20.heap.size W HS.out (HSP.out.2 p hp) ((hW.block _ (size_of_block y20')).trans y20') ((g21.later hW).more hW.size)).mono ?_
        rintro e X21 ⟨u1, rfl, hown1, hx21⟩
        refine hK _ _ hx21 fun V22 hu22 => ?_
        clear hK K
        have i1 := (Ints.of_own (l := l.map (endLo f f.ls)) (by rw [List.length_map]; exact hown1) (by rw [List.length_map]; have := HSP.out.1; omega)).later hu22
        have C22 := below_then C21 (below_then hx21 hu22)
        have D22 := below_then D21 (below_then hx21 hu22)
        refine wpTr_step rfl rfl fun K hK => ?_
        go_simp
        refine (burn_c u1 (l.map (endLo f f.ls)) need V22 i1 (by rw [List.length_map]; have := HSP.out.1; omega) (fun x hx => by obtain ⟨p, hp, rfl⟩ := List.mem_map.1 hx; exact lo_range HS.out.slope HS.out.look p) HN2.out).mono ?_
        rintro e X22 ⟨rfl, hx22⟩
        rw [HV1.out]
        refine hK _ _ hx22 fun V23 hu23 => ?_
        clear hK K
        have C23 := below_then C22 (below_then hx22 hu23)
        have D23 := below_then D22 (below_then hx22 hu23)
        refine wpTr_step rfl rfl fun K hK => ?_
        go_simp
        refine (hhigh V23).mono ?_
        rintro e X23 ⟨rfl, hX23⟩
        have y23 : X23.heap[V23.heap.size]? = some (.cells #[.int .i64 f.rise, .int .i64 f.fall, .int .i64 f.up, .int .i64 f.down, .func (.func gf) #[] lb] 114) := by rw [hX23]; exact heap_alloc_new _ _
        have hx23 : Below V23.heap.size V23 X23 := by rw [hX23]; exact below_alloc _ _
        clear hX23
        refine hK _ _ hx23 fun V24 hu24 => ?_
        clear hK K
        have y23' := (hu24.block _ (size_of_block y23)).trans y23
        have C24 := below_then C23 (below_then hx23 hu24)
        have D24 := below_then D23 (below_then hx23 hu24)
        have g24 := (HG.out.later D24).more D24.size
        refine wpTr_step rfl rfl fun K hK => ?_
        go_simp
        refine (heats_c (endHi f f.ls) (highId f f.ls) v l _ _ V24 (hv.later C24) (by have := HSP.out.1; omega) (enters_of Tryz.func123 (by kernel_rfl) rfl) fun p hp W hW => high1_c f S f.ls gf lb p V23.heap.size W HS.out (HSP.out.2 p hp) ((hW.block _ (size_of_block y23')).trans y23') ((g24.later hW).more hW.size)).mono ?_
        rintro e X24 ⟨u2, rfl, hown2, hx24⟩
        refine hK _ _ hx24 fun V25 hu25 => ?_
        clear hK K
        have i2 := (Ints.of_own (l := l.map (endHi f f.ls)) (by rw [List.length_map]; exact hown2) (by rw [List.length_map]; have := HSP.out.1; omega)).later hu25
        have C25 := below_then C24 (below_then hx24 hu25)
        have D25 := below_then D24 (below_then hx24 hu25)
        refine wpTr_step rfl rfl fun K hK => ?_
        go_simp
        refine (burn_c u2 (l.map (endHi f f.ls)) need V25 i2 (by rw [List.length_map]; have := HSP.out.1; omega) (fun x hx => by obtain ⟨p, hp, rfl⟩ := List.mem_map.1 hx; exact hi_range HS.out.slope HS.out.look p) HN2.out).mono ?_
        rintro e X25 ⟨rfl, hx25⟩
        rw [HV2.out]
        refine hK _ _ hx25 fun V26 hu26 => ?_
        clear hK K
        have C26 := below_then C25 (below_then hx25 hu26)
        have D26 := below_then D25 (below_then hx25 hu26)
        have Q1 := (D26.block _ (size_of_block rq1)).trans rq1
        have Q2 := (D26.block _ (size_of_block rq2)).trans rq2
        clear HV1 HV2 HB1 HB2 r1 rq0 rq1 rq2
        have rz1 := setRow_heap V26 (w.heap.size + 1) _ #[.int .i64 b1.hours, .int .i64 b1.row, .int .i64 b1.sum] _ _ Q1
        have rz2 := (setRow_other V26 (w.heap.size + 1) (w.heap.size + 1 + 1) #[.int .i64 b1.hours, .int .i64 b1.row, .int .i64 b1.sum] (by omega)).trans Q2
        have HP2 := Lib.hid (fun j : Nat => cell_setRow_same (V26.setRow (w.heap.size + 1) #[.int .i64 b1.hours, .int .i64 b1.row, .int .i64 b1.sum]) (w.heap.size + 1 + 1) j _ #[.int .i64 b2.hours, .int .i64 b2.row, .int .i64 b2.sum] _ _ rz2)
        have HP1 := Lib.hid (fun j : Nat => Joins.cell_of_block ((setRow_other (V26.setRow (w.heap.size + 1) #[.int .i64 b1.hours, .int .i64 b1.row, .int .i64 b1.sum]) (w.heap.size + 1 + 1) (w.heap.size + 1) #[.int .i64 b2.hours, .int .i64 b2.row, .int .i64 b2.sum] (by omega)).trans rz1) j)
        have BF := below_setRow (below_setRow C26 (show w.heap.size ≤ w.heap.size + 1 by omega) #[.int .i64 b1.hours, .int .i64 b1.row, .int .i64 b1.sum]) (show w.heap.size ≤ w.heap.size + 1 + 1 by omega) #[.int .i64 b2.hours, .int .i64 b2.row, .int .i64 b2.sum]
        unfold brnV
        show wpPure _ _ _ _
        intro ks hk _ _
        obtain rfl : ks = [] := List.length_eq_zero_iff.1 hk
        clear hk
        show wpList _ _ _ _ _ _
        simp only [deco]
        refine wpList_store_rowTo rfl 74 _ _ rfl rfl (w.heap.size + 1) #[.int .i64 b1.hours, .int .i64 b1.row, .int .i64 b1.sum] rfl rfl 74 _ Q1 (by kernel_rfl) rfl (by kernel_rfl) ?_
        refine wpList_store_rowTo rfl 74 _ _ rfl rfl (w.heap.size + 1 + 1) #[.int .i64 b2.hours, .int .i64 b2.row, .int .i64 b2.sum] rfl rfl 74 _ rz2 (by kernel_rfl) rfl (by kernel_rfl) ?_
        go_wp2_with fail
        refine bodyPost_ret (v := .tuple #[.agg #[.int .i64 b1.hours, .int .i64 b1.row, .int .i64 b1.sum], .agg #[.int .i64 b2.hours, .int .i64 b2.row, .int .i64 b2.sum], .int .i64 0]) ?_ rfl ⟨by rw [HE.out], BF⟩
        simp [results, Tryz.results38, go_sem, HP1.out, HP2.out]
      · have d1 : (ke != 0) = true := by simpa using h0
        have HV1 : Hid (b1 = ⟨0, 0, 0⟩) := by show b1 = _; rw [HB1.out]; unfold leastR; rw [HE.out, if_neg h0]
        have HV2 : Hid (b2 = ⟨0, 0, 0⟩) := by show b2 = _; rw [HB2.out]; unfold mostR; rw [HE.out, if_neg h0]
        clear h0 HZ HN HROW K11 hpe1 hpe2 hke h5 h1c
        have rz1 := setRow_heap W11 (w.heap.size + 1) _ #[.int .i64 0, .int .i64 0, .int .i64 0] _ _ rq1
        have rz2 := (setRow_other W11 (w.heap.size + 1) (w.heap.size + 1 + 1) #[.int .i64 0, .int .i64 0, .int .i64 0] (by omega)).trans rq2
        have HP2 := Lib.hid (fun j : Nat => cell_setRow_same (W11.setRow (w.heap.size + 1) #[.int .i64 0, .int .i64 0, .int .i64 0]) (w.heap.size + 1 + 1) j _ #[.int .i64 0, .int .i64 0, .int .i64 0] _ _ rz2)
        have HP1 := Lib.hid (fun j : Nat => Joins.cell_of_block ((setRow_other (W11.setRow (w.heap.size + 1) #[.int .i64 0, .int .i64 0, .int .i64 0]) (w.heap.size + 1 + 1) (w.heap.size + 1) #[.int .i64 0, .int .i64 0, .int .i64 0] (by omega)).trans rz1) j)
        have BF := below_setRow (below_setRow B11 (show w.heap.size ≤ w.heap.size + 1 by omega) #[.int .i64 0, .int .i64 0, .int .i64 0]) (show w.heap.size ≤ w.heap.size + 1 + 1 by omega) #[.int .i64 0, .int .i64 0, .int .i64 0]
        go_wp2_with (first | (refine wpList_store_rowTo rfl 74 _ _ rfl rfl (w.heap.size + 1) #[.int .i64 0, .int .i64 0, .int .i64 0] rfl rfl 74 _ rq1 (by kernel_rfl) rfl (by kernel_rfl) ?_) | (refine wpList_store_rowTo rfl 74 _ _ rfl rfl (w.heap.size + 1 + 1) #[.int .i64 0, .int .i64 0, .int .i64 0] rfl rfl 74 _ rz2 (by kernel_rfl) rfl (by kernel_rfl) ?_))
        refine bodyPost_ret (v := .tuple #[.agg #[.int .i64 0, .int .i64 0, .int .i64 0], .agg #[.int .i64 0, .int .i64 0, .int .i64 0], .int .i64 ke]) ?_ rfl ⟨by rw [HV1.out, HV2.out, HE.out], BF⟩
        simp [results, Tryz.results38, go_sem, HP1.out, HP2.out]
    · refine wpTr_step rfl rfl fun K hK => ?_
      go_simp
      refine hK _ _ (below_alloc _ _) fun V1 hu1 => ?_
      clear hK K
      have yn := (hu1.block _ (by simp)).trans (heap_alloc_new V0 (.cells #[.int .i64 need] 3))
      have S1 := below_then (below_alloc V0 (.cells #[.int .i64 need] 3)) hu1
      have C1 := below_then C0 S1
      have D1 := below_then D0 S1
      refine wpTr_step rfl rfl fun K hK => ?_
      go_simp
      refine (CheckPath_c v l V1 (hv.later C1)).mono ?_
      rintro e X1 ⟨rfl, hx1⟩
      rw [hpe1]
      refine hK _ _ hx1 fun V2 hu2 => ?_
      clear hK K
      have S2 := below_then hx1 hu2
      have C2 := below_then C1 S2
      have D2 := below_then D1 S2
      replace yn := (S2.block _ (size_of_block yn)).trans yn
      refine wpTr_step rfl rfl fun K hK => ?_
      go_simp
      refine (checkHeats_c _ [need] V2 (ints1 yn)).mono ?_
      rintro e X2 ⟨rfl, hx2⟩
      rw [show (if [need].all heatB then (0 : Int) else 1) = heatE need by simp [heatE], hpe2]
      refine hK _ _ hx2 fun V3 hu3 => ?_
      clear hK K
      have S3 := below_then hx2 hu3
      have C3 := below_then C2 S3
      have D3 := below_then D2 S3
      replace yn := (S3.block _ (size_of_block yn)).trans yn
      refine wpTr_step rfl rfl fun K hK => ?_
      go_simp
      refine hK _ _ (below_alloc _ _) fun V4 hu4 => ?_
      clear hK K
      have ye := (hu4.block _ (by simp)).trans (heap_alloc_new V3 (.cells #[.int .i64 pe1, .int .i64 pe2] 30))
      have S4 := below_then (below_alloc V3 (.cells #[.int .i64 pe1, .int .i64 pe2] 30)) hu4
      have C4 := below_then C3 S4
      have D4 := below_then D3 S4
      replace yn := (S4.block _ (size_of_block yn)).trans yn
      refine wpTr_step rfl rfl fun K hK => ?_
      go_simp
      refine (hK' _ [pe1, pe2] V4 C4 (ints2 ye)).mono ?_
      rintro e X4 ⟨sv, rfl, hz, hn, hx4⟩
      refine hK _ _ hx4 fun V5 hu5 => ?_
      clear hK K
      have S5 := below_then hx4 hu5
      have C5 := below_then C4 S5
      have D5 := below_then D4 S5
      replace yn := (S5.block _ (size_of_block yn)).trans yn
      replace ye := (S5.block _ (size_of_block ye)).trans ye
      obtain ⟨row, hrow, h5, h1c⟩ := sight_row hz hn
      have N10 : Hid (∀ k, k < X4.heap.size → V5.heap[k]? = X4.heap[k]?) := fun k h => hu5.block k h
      have Qq0 := (D5.block _ zq0).trans q0
      have Qq1 := (D5.block _ zq1).trans q1
      have Qq2 := (D5.block _ zq2).trans q2
      have n10 := hu5.size
      have n9 := hx4.size
      clear yn ye C0 C1 C2 C3 C4 D0 D1 D2 D3 D4 D5 S1 S2 S3 S4 S5 hu1 hu2 hu3 hu4 hu5 hK' hb0 q0 q1 q2
      have HZ := Lib.hid hz
      have HN := Lib.hid hn
      have HROW := Lib.hid hrow
      clear hz hn
      generalize hke : knownE f [pe1, pe2] = ke at HZ HN ⊢
      rw [hrow]
      refine wpPure_step (.tuple #[.agg row, .int .i64 ke]) rfl (fun u => rfl) ?_
      refine wpPure_step (.agg row) rfl (fun u => rfl) ?_
      refine wpPure_step (.int .i64 ke) rfl (fun u => rfl) ?_
      intro ks hk hall hH
      obtain ⟨k1, rfl⟩ : ∃ k1, ks = [some k1] := by
        match ks, hk with
        | [none], _ => exact absurd rfl (hall 0)
        | [some k1], _ => exact ⟨k1, rfl⟩
      obtain ⟨o1, ge1, lt1⟩ := hH.obj 0 k1 rfl
      have ou := hH.out 0 k1 rfl (V4.heap.size, X4.heap.size) (by simp)
      rw [show ([Obj.cells #[.int .i64 0, .int .i64 0, .int .i64 0, .int .i64 0, .nilFunc] 114])[0]? = some (.cells #[.int .i64 0, .int .i64 0, .int .i64 0, .int .i64 0, .nilFunc] 114) from rfl] at o1
      rw [QS.out] at ge1
      clear hH hall hk
      have hkq0 : k1 ≠ w.heap.size := by omega
      have hkq1 : k1 ≠ w.heap.size + 1 := by omega
      have hkq2 : k1 ≠ w.heap.size + 1 + 1 := by omega
      show wpList _ _ _ _ _ _
      simp only [deco, ptrV]
      refine wpList_store_rowTo rfl 114 _ _ rfl rfl k1 row rfl rfl 114 _ o1 (by rw [Tryz.zSightSize, h5]) (by rw [h5]; rfl) h1c ?_
      have r1 := setRow_heap V5 k1 _ row _ _ o1
      have rq0 := (setRow_other V5 k1 (w.heap.size) row (Ne.symm hkq0)).trans Qq0
      have rq1 := (setRow_other V5 k1 (w.heap.size + 1) row (Ne.symm hkq1)).trans Qq1
      have rq2 := (setRow_other V5 k1 (w.heap.size + 1 + 1) row (Ne.symm hkq2)).trans Qq2
      have B11 := below_setRow C5 (show w.heap.size ≤ k1 by omega) row
      have K11 : Hid (∀ k, V4.heap.size ≤ k → k < X4.heap.size → (V5.setRow k1 row).heap[k]? = X4.heap[k]?) := fun k h1 h2 => (setRow_other V5 k1 k row (by omega)).trans (N10.out k h2)
      have z11 := size_setRow V5 k1 row
      have n11 : X4.heap.size ≤ (V5.setRow k1 row).heap.size := by omega
      generalize V5.setRow k1 row = W11 at r1 rq0 rq1 rq2 B11 K11 n11 z11 ⊢
      clear o1 Qq0 Qq1 Qq2 C5 N10 z11 n10 n9 ou lt1
      have HE : Hid (sunkE f l need = ke) := by show sunkE f l need = ke; unfold sunkE; rw [hpe1, hpe2, hke]
      by_cases h0 : ke = 0
      · obtain ⟨S, hS, hKn⟩ := HZ.out h0
        obtain ⟨gf, lb, hform⟩ := hKn.form
        have hgv := hKn.gives gf lb hform W11 (fun k h1 h2 => K11.out k h1 h2) n11
        obtain rfl : row = #[.int .i64 f.rise, .int .i64 f.fall, .int .i64 f.up, .int .i64 f.down, .func (.func gf) #[] lb] := by
          have e := HROW.out.symm.trans hform
          simpa [siV] using e
        subst h0
        have hsp : l.length ≤ 200 ∧ ∀ p ∈ l, spotB p = true := by
          have h1 := (first2.1 (known_zero hke).2.1).1
          rw [← hpe1] at h1
          exact path_zero h1
        have hn2 : 0 ≤ need ∧ need ≤ 1500 := by
          have h1 := (first2.1 (known_zero hke).2.1).2
          rw [← hpe2] at h1
          exact heat_iff.1 (heatE_iff.1 h1)
        have HV1 : Hid (burnI (l.map (endLo f f.ls)) need = b1) := by show _ = b1; rw [HB1.out]; unfold leastR lowsI; rw [if_pos HE.out]
        have HV2 : Hid (burnI (l.map (endHi f f.ls)) need = b2) := by show _ = b2; rw [HB2.out]; unfold mostR highsI; rw [if_pos HE.out]
        have hlow := fun W => low_c f gf lb W
        have hhigh := fun W => high_c f gf lb W
        unfold siV at hlow hhigh
        have HSP := Lib.hid hsp
        have HN2 := Lib.hid hn2
        have HS := Lib.hid hS
        have HG := Lib.hid hgv
        clear hgv hKn hform HZ HN HROW K11 hS hpe1 hpe2 hke h5 h1c hsp hn2
        go_wp2_with fail
        refine wp_region_looseM [0, 4, 6, 10] [1, 7] (.one 2 (.one 3 (.one 5 (.one 8 (.one 9 (.one 11 .done)))))) [] [] [12, 13, 14] [] [] (by kernel_rfl) (by kernel_rfl) (by intro c a d v w h; cases d <;> exact h) (by intro c a d v w h; cases d <;> exact h) rfl (fun r i h => by simp at h) ?_
        simp only [pick, List.filterMap_cons, List.filterMap_nil, List.getElem?_toArray, List.getElem?_cons_succ, List.getElem?_cons_zero]
        refine wpPure_step v rfl (fun u => rfl) ?_
        refine wpPure_step (.int .i64 need) rfl (fun u => rfl) ?_
        refine wpPure_step v rfl (fun u => rfl) ?_
        refine wpPure_step (.int .i64 need) rfl (fun u => rfl) ?_
        intro u12 hu12
        have zr1 := size_of_block r1
        have t1 := (hu12.block _ zr1).trans r1
        have zt1 := size_of_block t1
        have s0 := Joins.cell_of_block t1 0
        have s1 := Joins.cell_of_block t1 1
        have s2 := Joins.cell_of_block t1 2
        have s3 := Joins.cell_of_block t1 3
        have s4 := Joins.cell_of_block t1 4
        have hcg : ∀ (g : Gr u12) b o, b < u12.heap.size → g.val.cell? ⟨b, o, none⟩ = u12.cell? ⟨b, o, none⟩ := fun g b o h => (bcell g.b).1 b o h
        iterate 2 (refine wpRel_step (fun K hK => ?_); go_simp; refine hK _ ?_; clear hK K)
        refine wpRel_nil fun V20 hb20 => ?_
        clear hcg s0 s1 s2 s3 s4 t1 zt1
        have D20 := below_then hu12 hb20
        have C20 := below_then B11 D20
        refine wpTr_step rfl rfl fun K hK => ?_
        go_simp
        refine (hlow V20).mono ?_
        rintro e X20 ⟨rfl, hX20⟩
        have y20 : X20.heap[V20.heap.size]? = some (.cells #[.int .i64 f.rise, .int .i64 f.fall, .int .i64 f.up, .int .i64 f.down, .func (.func gf) #[] lb] 114) := by rw [hX20]; exact heap_alloc_new _ _
        have hx20 : Below V20.heap.size V20 X20 := by rw [hX20]; exact below_alloc _ _
        clear hX20
        refine hK _ _ hx20 fun V21 hu21 => ?_
        clear hK K
        have y20' := (hu21.block _ (size_of_block y20)).trans y20
        have C21 := below_then C20 (below_then hx20 hu21)
        have D21 := below_then D20 (below_then hx20 hu21)
        have g21 := (HG.out.later D21).more D21.size
        refine wpTr_step rfl rfl fun K hK => ?_
        go_simp
        refine (heats_c (endLo f f.ls) (lowId f f.ls) v l _ _ V21 (hv.later C21) (by have := HSP.out.1; omega) (enters_of Tryz.func120 (by kernel_rfl) rfl) fun p hp W hW => low1_c f S f.ls gf lb p V20.heap.size W HS.out (HSP.out.2 p hp) ((hW.block _ (size_of_block y20')).trans y20') ((g21.later hW).more hW.size)).mono ?_
        rintro e X21 ⟨u1, rfl, hown1, hx21⟩
        refine hK _ _ hx21 fun V22 hu22 => ?_
        clear hK K
        have i1 := (Ints.of_own (l := l.map (endLo f f.ls)) (by rw [List.length_map]; exact hown1) (by rw [List.length_map]; have := HSP.out.1; omega)).later hu22
        have C22 := below_then C21 (below_then hx21 hu22)
        have D22 := below_then D21 (below_then hx21 hu22)
        refine wpTr_step rfl rfl fun K hK => ?_
        go_simp
        refine (burn_c u1 (l.map (endLo f f.ls)) need V22 i1 (by rw [List.length_map]; have := HSP.out.1; omega) (fun x hx => by obtain ⟨p, hp, rfl⟩ := List.mem_map.1 hx; exact lo_range HS.out.slope HS.out.look p) HN2.out).mono ?_
        rintro e X22 ⟨rfl, hx22⟩
        rw [HV1.out]
        refine hK _ _ hx22 fun V23 hu23 => ?_
        clear hK K
        have C23 := below_then C22 (below_then hx22 hu23)
        have D23 := below_then D22 (below_then hx22 hu23)
        refine wpTr_step rfl rfl fun K hK => ?_
        go_simp
        refine (hhigh V23).mono ?_
        rintro e X23 ⟨rfl, hX23⟩
        have y23 : X23.heap[V23.heap.size]? = some (.cells #[.int .i64 f.rise, .int .i64 f.fall, .int .i64 f.up, .int .i64 f.down, .func (.func gf) #[] lb] 114) := by rw [hX23]; exact heap_alloc_new _ _
        have hx23 : Below V23.heap.size V23 X23 := by rw [hX23]; exact below_alloc _ _
        clear hX23
        refine hK _ _ hx23 fun V24 hu24 => ?_
        clear hK K
        have y23' := (hu24.block _ (size_of_block y23)).trans y23
        have C24 := below_then C23 (below_then hx23 hu24)
        have D24 := below_then D23 (below_then hx23 hu24)
        have g24 := (HG.out.later D24).more D24.size
        refine wpTr_step rfl rfl fun K hK => ?_
        go_simp
        refine (heats_c (endHi f f.ls) (highId f f.ls) v l _ _ V24 (hv.later C24) (by have := HSP.out.1; omega) (enters_of Tryz.func123 (by kernel_rfl) rfl) fun p hp W hW => high1_c f S f.ls gf lb p V23.heap.size W HS.out (HSP.out.2 p hp) ((hW.block _ (size_of_block y23')).trans y23') ((g24.later hW).more hW.size)).mono ?_
        rintro e X24 ⟨u2, rfl, hown2, hx24⟩
        refine hK _ _ hx24 fun V25 hu25 => ?_
        clear hK K
        have i2 := (Ints.of_own (l := l.map (endHi f f.ls)) (by rw [List.length_map]; exact hown2) (by rw [List.length_map]; have := HSP.out.1; omega)).later hu25
        have C25 := below_then C24 (below_then hx24 hu25)
        have D25 := below_then D24 (below_then hx24 hu25)
        refine wpTr_step rfl rfl fun K hK => ?_
        go_simp
        refine (burn_c u2 (l.map (endHi f f.ls)) need V25 i2 (by rw [List.length_map]; have := HSP.out.1; omega) (fun x hx => by obtain ⟨p, hp, rfl⟩ := List.mem_map.1 hx; exact hi_range HS.out.slope HS.out.look p) HN2.out).mono ?_
        rintro e X25 ⟨rfl, hx25⟩
        rw [HV2.out]
        refine hK _ _ hx25 fun V26 hu26 => ?_
        clear hK K
        have C26 := below_then C25 (below_then hx25 hu26)
        have D26 := below_then D25 (below_then hx25 hu26)
        have Q1 := (D26.block _ (size_of_block rq1)).trans rq1
        have Q2 := (D26.block _ (size_of_block rq2)).trans rq2
        clear HV1 HV2 HB1 HB2 r1 rq0 rq1 rq2
        have rz1 := setRow_heap V26 (w.heap.size + 1) _ #[.int .i64 b1.hours, .int .i64 b1.row, .int .i64 b1.sum] _ _ Q1
        have rz2 := (setRow_other V26 (w.heap.size + 1) (w.heap.size + 1 + 1) #[.int .i64 b1.hours, .int .i64 b1.row, .int .i64 b1.sum] (by omega)).trans Q2
        have HP2 := Lib.hid (fun j : Nat => cell_setRow_same (V26.setRow (w.heap.size + 1) #[.int .i64 b1.hours, .int .i64 b1.row, .int .i64 b1.sum]) (w.heap.size + 1 + 1) j _ #[.int .i64 b2.hours, .int .i64 b2.row, .int .i64 b2.sum] _ _ rz2)
        have HP1 := Lib.hid (fun j : Nat => Joins.cell_of_block ((setRow_other (V26.setRow (w.heap.size + 1) #[.int .i64 b1.hours, .int .i64 b1.row, .int .i64 b1.sum]) (w.heap.size + 1 + 1) (w.heap.size + 1) #[.int .i64 b2.hours, .int .i64 b2.row, .int .i64 b2.sum] (by omega)).trans rz1) j)
        have BF := below_setRow (below_setRow C26 (show w.heap.size ≤ w.heap.size + 1 by omega) #[.int .i64 b1.hours, .int .i64 b1.row, .int .i64 b1.sum]) (show w.heap.size ≤ w.heap.size + 1 + 1 by omega) #[.int .i64 b2.hours, .int .i64 b2.row, .int .i64 b2.sum]
        unfold brnV
        show wpPure _ _ _ _
        intro ks hk _ _
        obtain rfl : ks = [] := List.length_eq_zero_iff.1 hk
        clear hk
        show wpList _ _ _ _ _ _
        simp only [deco]
        refine wpList_store_rowTo rfl 74 _ _ rfl rfl (w.heap.size + 1) #[.int .i64 b1.hours, .int .i64 b1.row, .int .i64 b1.sum] rfl rfl 74 _ Q1 (by kernel_rfl) rfl (by kernel_rfl) ?_
        refine wpList_store_rowTo rfl 74 _ _ rfl rfl (w.heap.size + 1 + 1) #[.int .i64 b2.hours, .int .i64 b2.row, .int .i64 b2.sum] rfl rfl 74 _ rz2 (by kernel_rfl) rfl (by kernel_rfl) ?_
        go_wp2_with fail
        refine bodyPost_ret (v := .tuple #[.agg #[.int .i64 b1.hours, .int .i64 b1.row, .int .i64 b1.sum], .agg #[.int .i64 b2.hours, .int .i64 b2.row, .int .i64 b2.sum], .int .i64 0]) ?_ rfl ⟨by rw [HE.out], BF⟩
        simp [results, Tryz.results38, go_sem, HP1.out, HP2.out]
      · have d1 : (ke != 0) = true := by simpa using h0
        have HV1 : Hid (b1 = ⟨0, 0, 0⟩) := by show b1 = _; rw [HB1.out]; unfold leastR; rw [HE.out, if_neg h0]
        have HV2 : Hid (b2 = ⟨0, 0, 0⟩) := by show b2 = _; rw [HB2.out]; unfold mostR; rw [HE.out, if_neg h0]
        clear h0 HZ HN HROW K11 hpe1 hpe2 hke h5 h1c
        have rz1 := setRow_heap W11 (w.heap.size + 1) _ #[.int .i64 0, .int .i64 0, .int .i64 0] _ _ rq1
        have rz2 := (setRow_other W11 (w.heap.size + 1) (w.heap.size + 1 + 1) #[.int .i64 0, .int .i64 0, .int .i64 0] (by omega)).trans rq2
        have HP2 := Lib.hid (fun j : Nat => cell_setRow_same (W11.setRow (w.heap.size + 1) #[.int .i64 0, .int .i64 0, .int .i64 0]) (w.heap.size + 1 + 1) j _ #[.int .i64 0, .int .i64 0, .int .i64 0] _ _ rz2)
        have HP1 := Lib.hid (fun j : Nat => Joins.cell_of_block ((setRow_other (W11.setRow (w.heap.size + 1) #[.int .i64 0, .int .i64 0, .int .i64 0]) (w.heap.size + 1 + 1) (w.heap.size + 1) #[.int .i64 0, .int .i64 0, .int .i64 0] (by omega)).trans rz1) j)
        have BF := below_setRow (below_setRow B11 (show w.heap.size ≤ w.heap.size + 1 by omega) #[.int .i64 0, .int .i64 0, .int .i64 0]) (show w.heap.size ≤ w.heap.size + 1 + 1 by omega) #[.int .i64 0, .int .i64 0, .int .i64 0]
        go_wp2_with (first | (refine wpList_store_rowTo rfl 74 _ _ rfl rfl (w.heap.size + 1) #[.int .i64 0, .int .i64 0, .int .i64 0] rfl rfl 74 _ rq1 (by kernel_rfl) rfl (by kernel_rfl) ?_) | (refine wpList_store_rowTo rfl 74 _ _ rfl rfl (w.heap.size + 1 + 1) #[.int .i64 0, .int .i64 0, .int .i64 0] rfl rfl 74 _ rz2 (by kernel_rfl) rfl (by kernel_rfl) ?_))
        refine bodyPost_ret (v := .tuple #[.agg #[.int .i64 0, .int .i64 0, .int .i64 0], .agg #[.int .i64 0, .int .i64 0, .int .i64 0], .int .i64 ke]) ?_ rfl ⟨by rw [HV1.out, HV2.out, HE.out], BF⟩
        simp [results, Tryz.results38, go_sem, HP1.out, HP2.out]
end Go.Proofs.YtjpoacffnpgjdaaGreat
