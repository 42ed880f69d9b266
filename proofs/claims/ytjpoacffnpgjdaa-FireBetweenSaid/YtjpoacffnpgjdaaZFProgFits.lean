/- Fits: by the program (written by tools/genfits.py). -/
import Derived.Test.YtjpoacffnpgjdaaJ17
import Derived.Test.YtjpoacffnpgjdaaZFProgAllows
import Derived.Test.YtjpoacffnpgjdaaJ7
namespace Go.Proofs.Ytjpoacffnpgjdaa
open Go Go.RowKit Go.Shelf
attribute [local go_sem] Oper.semAt_some Rel RelAt RelUpon

theorem lookS_none {x : Spt} {T : List (Spt × Int)} (h : lookS x T = none) : ∀ a ∈ T, a.1 ≠ x := by
  intro a ha e
  unfold lookS at h
  rw [Option.map_eq_none_iff, List.find?_eq_none] at h
  exact h a ha (sBeq_iff.2 e.symm)
theorem lookS_some {x : Spt} {T : List (Spt × Int)} {v : Int} (h : lookS x T = some v) : (x, v) ∈ T := by
  unfold lookS at h
  rw [Option.map_eq_some_iff] at h
  obtain ⟨a, h1, h2⟩ := h
  have e0 := List.find?_some h1
  have e := sBeq_iff.1 e0
  have := List.mem_of_find?_eq_some h1
  rw [e, ← h2]; exact this
theorem zeroIntF (w : World) : (zeroValue 3).run Try.prog w = .ok (.int .i64 0) w := by kernel_rfl
theorem zip_snoc {l : List Spt} {hs : List Int} {j : Nat} {p : Spt} {h : Int} (hp : l[j]? = some p) (hh : hs[j]? = some h) : (l.zip hs).take (j + 1) = (l.zip hs).take j ++ [(p, h)] := by
  rw [List.take_add_one]
  congr 1
  rw [(List.getElem?_zip_eq_some (z := (p, h))).2 ⟨hp, hh⟩]; rfl
set_option maxRecDepth 100000 in
set_option maxHeartbeats 8000000 in
theorem Fits_c (f : Fi) (vl v u : Value) (l : List Spt) (hs : List Int) (w : World) (hl : Lks w w.heap.size vl f.ls) (hv : Spts w w.heap.size v l) (hu : Ints w w.heap.size u hs) :
    Calls Try.prog 14 #[fiV f vl, v, u] w fun e w' => e = .returned (.tuple #[.bool (fitsR f l hs), .int .i64 (fitsE f l hs)]) ∧ Below w.heap.size w w' := by
  obtain ⟨A, cap, rfl⟩ := hl.form
  have HV := Lib.hid hv
  have HU := Lib.hid hu
  obtain ⟨A2, cap2, rfl, _, hn2, hat2⟩ := hv.open_
  obtain ⟨A3, cap3, rfl, _, hn3, hat3⟩ := Ints.open_ hu
  have H2 := Lib.hid hat2
  have H3 := Lib.hid hat3
  clear hat2 hat3 hv hu
  have q0 := heap_alloc_new w (.cells #[.int .i64 f.rise, .int .i64 f.fall, .int .i64 f.up, .int .i64 f.down, .slice A f.ls.length cap] 24)
  have qb := below_alloc w (.cells #[.int .i64 f.rise, .int .i64 f.fall, .int .i64 f.up, .int .i64 f.down, .slice A f.ls.length cap] 24)
  have qs := World.size_alloc w (.cells #[.int .i64 f.rise, .int .i64 f.fall, .int .i64 f.up, .int .i64 f.down, .slice A f.ls.length cap] 24)
  have hK' := fun ve errs W (hb : Below w.heap.size w W) => known_c f (.slice A f.ls.length cap) ve errs W (hl.later hb)
  obtain ⟨R, hR⟩ : ∃ b, b = fitsR f l hs := ⟨_, rfl⟩
  rw [← hR]
  have HR := Lib.hid hR
  clear hR
  unfold fiV at hK' ⊢
  go_enter Try.func14, Try.ntmps14
  go_wp2_with fail
  have QS := Lib.hid qs
  clear qs
  generalize w.alloc _ = W3 at q0 QS qb ⊢
  generalize hpe1 : spotsI l = pe1
  generalize hpe2 : toldE l hs = pe2
  refine wp_region_looseT [0, 1, 3, 4] (.one 2 (.one 5 (.one 6 (.one 7 .done)))) [11] [8, 9, 10] [12, 13] [some 8] [.cells #[.int .i64 0, .int .i64 0, .int .i64 0, .int .i64 0, .nilFunc] 85] (by kernel_rfl) (by kernel_rfl) (by intro c a d v w h; cases d <;> exact h) (by intro c a d v w h; cases d <;> exact h) rfl ?_ ?_
  · intro r i hri
    match r, hri with
    | 0, hri => cases hri; exact ⟨_, _, rfl, rfl, rfl, rfl, fun a u => by simp [execOp, go_sem, ptrV]⟩
  · intro u hu
    replace q0 := (hu.block _ (size_of_block q0)).trans q0
    replace qb := below_then qb hu
    have zq0 := size_of_block q0
    have cq00 := Joins.cell_of_block q0 0
    have cq01 := Joins.cell_of_block q0 1
    have cq02 := Joins.cell_of_block q0 2
    have cq03 := Joins.cell_of_block q0 3
    have cq04 := Joins.cell_of_block q0 4
    have hcg : ∀ (g : Gr u) b o, b < u.heap.size → g.val.cell? ⟨b, o, none⟩ = u.cell? ⟨b, o, none⟩ := fun g b o h => (bcell g.b).1 b o h
    simp only [pick, List.filterMap_cons, List.filterMap_nil, List.getElem?_toArray, List.getElem?_cons_succ, List.getElem?_cons_zero]
    iterate 4 (refine wpRel_step (fun K hK => ?_); go_simp; refine hK _ ?_; clear hK K)
    refine wpRel_nil fun V0 hb0 => ?_
    clear hcg cq00 cq01 cq02 cq03 cq04
    have C0 := below_then qb hb0
    have D0 := hb0
    refine wpTr_step rfl rfl fun K hK => ?_
    go_simp
    refine (checkList_c _ l V0 (HV.out.later C0)).mono ?_
    rintro e X0 ⟨rfl, hx0⟩
    rw [hpe1]
    refine hK _ _ hx0 fun V1 hu1 => ?_
    clear hK K
    have S1 := below_then hx0 hu1
    have C1 := below_then C0 S1
    have D1 := below_then D0 S1
    refine wpTr_step rfl rfl fun K hK => ?_
    go_simp
    refine (checkTold_c _ _ l hs V1 (HV.out.later C1) (HU.out.later C1)).mono ?_
    rintro e X1 ⟨rfl, hx1⟩
    rw [hpe2]
    refine hK _ _ hx1 fun V2 hu2 => ?_
    clear hK K
    have S2 := below_then hx1 hu2
    have C2 := below_then C1 S2
    have D2 := below_then D1 S2
    refine wpTr_step rfl rfl fun K hK => ?_
    go_simp
    refine hK _ _ (below_alloc _ _) fun V3 hu3 => ?_
    clear hK K
    have ye := (hu3.block _ (by simp)).trans (heap_alloc_new V2 (.cells #[.int .i64 pe1, .int .i64 pe2] 30))
    have S3 := below_then (below_alloc V2 (.cells #[.int .i64 pe1, .int .i64 pe2] 30)) hu3
    have C3 := below_then C2 S3
    have D3 := below_then D2 S3
    refine wpTr_step rfl rfl fun K hK => ?_
    go_simp
    refine (hK' _ [pe1, pe2] V3 C3 (ints2 ye)).mono ?_
    rintro e X3 ⟨sv, rfl, hz, hn, hx3⟩
    refine hK _ _ hx3 fun V4 hu4 => ?_
    clear hK K
    have S4 := below_then hx3 hu4
    have C4 := below_then C3 S4
    have D4 := below_then D3 S4
    replace ye := (S4.block _ (size_of_block ye)).trans ye
    obtain ⟨row, hrow, h5, h1c⟩ := sight_row hz hn
    have N10 : Hid (∀ k, k < X3.heap.size → V4.heap[k]? = X3.heap[k]?) := fun k h => hu4.block k h
    have Qq0 := (D4.block _ zq0).trans q0
    have n10 := hu4.size
    have n9 := hx3.size
    clear ye C0 C1 C2 C3 D0 D1 D2 D3 D4 S1 S2 S3 S4 hu1 hu2 hu3 hu4 hK' hb0 q0
    have HZ := Lib.hid hz
    have HN := Lib.hid hn
    have HROW := Lib.hid hrow
    clear hz hn
    generalize hke : knownE f [pe1, pe2] = ke at HZ HN ⊢
    rw [hrow]
    refine wpPure_step (.tuple #[.agg row, .int .i64 ke]) rfl (fun u => rfl) ?_
    refine wpPure_step (.agg row) rfl (fun u => rfl) ?_
    refine wpPure_step (.int .i64 ke) rfl (fun u => rfl) ?_
    intro ks hk hall hH
    obtain ⟨k1, rfl⟩ : ∃ k1, ks = [some k1] := by
      match ks, hk with
      | [none], _ => exact absurd rfl (hall 0)
      | [some k1], _ => exact ⟨k1, rfl⟩
    obtain ⟨o1, ge1, lt1⟩ := hH.obj 0 k1 rfl
    have ou := hH.out 0 k1 rfl (V3.heap.size, X3.heap.size) (by simp)
    rw [show ([Obj.cells #[.int .i64 0, .int .i64 0, .int .i64 0, .int .i64 0, .nilFunc] 85])[0]? = some (.cells #[.int .i64 0, .int .i64 0, .int .i64 0, .int .i64 0, .nilFunc] 85) from rfl] at o1
    rw [QS.out] at ge1
    clear hH hall hk
    have hkq0 : k1 ≠ w.heap.size := by omega
    show wpList _ _ _ _ _ _
    simp only [deco, ptrV]
    refine wpList_store_rowTo rfl 85 _ _ rfl rfl k1 row rfl rfl 85 _ o1 (by rw [Try.zSightSize, h5]) (by rw [h5]; rfl) h1c ?_
    have r1 := setRow_heap V4 k1 _ row _ _ o1
    have rq0 := (setRow_other V4 k1 (w.heap.size) row (Ne.symm hkq0)).trans Qq0
    have B11 := below_setRow C4 (show w.heap.size ≤ k1 by omega) row
    have K11 : Hid (∀ k, V3.heap.size ≤ k → k < X3.heap.size → (V4.setRow k1 row).heap[k]? = X3.heap[k]?) := fun k h1 h2 => (setRow_other V4 k1 k row (by omega)).trans (N10.out k h2)
    have z11 := size_setRow V4 k1 row
    have n11 : X3.heap.size ≤ (V4.setRow k1 row).heap.size := by omega
    generalize V4.setRow k1 row = W11 at r1 rq0 B11 K11 n11 z11 ⊢
    clear o1 Qq0 C4 N10 z11 n10 n9 ou lt1
    have HE : Hid (fitsE f l hs = ke) := by show fitsE f l hs = ke; unfold fitsE; rw [hpe1, hpe2, hke]
    by_cases h0 : ke = 0
    · obtain ⟨S, hS, hKn⟩ := HZ.out h0
      obtain ⟨gf, lb, hform⟩ := hKn.form
      have hgv := hKn.gives gf lb hform W11 (fun k h1 h2 => K11.out k h1 h2) n11
      obtain rfl : row = #[.int .i64 f.rise, .int .i64 f.fall, .int .i64 f.up, .int .i64 f.down, .func (.func gf) #[] lb] := by
        have e := HROW.out.symm.trans hform
        simpa [siV] using e
      subst h0
      have hsp : l.length ≤ 24 ∧ ∀ p ∈ l, spotB p = true := by
        have h1 := (first2.1 (known_zero hke).2.1).1
        rw [← hpe1] at h1
        exact spotsI_iff.1 h1
      have hht : l.length = hs.length ∧ hs.all heatB = true := by
        have h1 := (first2.1 (known_zero hke).2.1).2
        rw [← hpe2] at h1
        unfold toldE at h1
        by_cases h2 : l.length ≠ hs.length
        · rw [if_pos h2] at h1; cases h1
        · rw [if_neg h2] at h1
          refine ⟨by omega, ?_⟩
          cases h3 : hs.all heatB with
          | true => rfl
          | false => rw [h3] at h1; cases h1
      have HRR : Hid (R = fitsB f f.ls (l.zip hs)) := by show R = _; rw [HR.out]; unfold fitsR; rw [if_pos HE.out]
      have HSP := Lib.hid hsp
      have HHT := Lib.hid hht
      have HS := Lib.hid hS
      have HG := Lib.hid hgv
      have hlen24 := hsp.1
      have HLH := Lib.hid hht.1
      clear hgv hKn hform HZ HN HROW K11 hS hpe1 hpe2 hke h5 h1c hsp hht rq0 n11
      have R1 := Lib.hid r1
      have zk1 := size_of_block r1
      have B11' := Lib.hid B11
      have M0 := SMap.made W11
      have D0 := below_alloc W11 (.map #[] 0)
      have hmm := @run_makeMap Try.prog
      have z110 := B11.size
      clear r1 B11
      go_wp2_with fail
      clear hmm
      generalize W11.alloc (.map #[] 0) = W12 at M0 D0 ⊢
      go_loopw [32] (fun i wr => ∃ (j : Nat) (T : List (Spt × Int)), j ≤ l.length ∧ i = .int .i64 j ∧ SMap wr W11.heap.size T ∧ Hid (∀ a, a ∈ T ↔ a ∈ (l.zip hs).take j) ∧ Below W11.heap.size W11 wr) (fun i _ => l.length - (intOf i).toNat)
      case atStart => exact ⟨0, [], Nat.zero_le _, rfl, M0, by intro a; simp, D0⟩
      case round =>
        clear M0 D0
        obtain ⟨j, T, hj, rfl, hm, HT, hD⟩ := hrel
        by_cases hlt : j < l.length
        · obtain ⟨b2, off2, p, rfl, hb2, hx2, x0, x1⟩ := H2.out j hlt
          obtain ⟨b3, off3, h, rfl, hb3, hx3, y0⟩ := H3.out j (by have := HLH.out; omega)
          have hlt3 : j < hs.length := by have := HLH.out; omega
          have HZS := Lib.hid (zip_snoc hx2 hx3)
          have HPL := Lib.hid (List.mem_of_getElem? hx2)
          have c0 := (hD.cell (p := ⟨b2, off2 + j * 2, none⟩) (Nat.lt_of_lt_of_le hb2 z110)).trans ((B11'.out.cell (p := ⟨b2, off2 + j * 2, none⟩) hb2).trans x0)
          have c1 := (hD.cell (p := ⟨b2, off2 + j * 2 + 1, none⟩) (Nat.lt_of_lt_of_le hb2 z110)).trans ((B11'.out.cell (p := ⟨b2, off2 + j * 2 + 1, none⟩) hb2).trans x1)
          have hbz := hD.size
          have HB := below_alloc wr (.cells #[.int .i64 p.foot, .int .i64 p.hour] 42)
          have a1 := heap_alloc_new wr (.cells #[.int .i64 p.foot, .int .i64 p.hour] 42)
          have g0 := Joins.cell_of_block a1 0
          have g1 := Joins.cell_of_block a1 1
          have m1 := hm.later HB
          have e0 := (HB.cell (p := ⟨b3, off3 + j, none⟩) (by show b3 < wr.heap.size; omega)).trans ((hD.cell (p := ⟨b3, off3 + j, none⟩) (Nat.lt_of_lt_of_le hb3 z110)).trans ((B11'.out.cell (p := ⟨b3, off3 + j, none⟩) hb3).trans y0))
          have hz3 : b3 < (wr.alloc (.cells #[.int .i64 p.foot, .int .i64 p.hour] 42)).heap.size := by simp; omega
          have D2 := below_then hD HB
          have hlk := lookup_s Try.underlying93 zeroIntF m1 p
          unfold sV at hlk
          have hzb : b2 < wr.heap.size := by omega
          clear x0 x1 y0 hx2 hx3 hm hD HB
          cases hlo : lookS p T with
          | none =>
            rw [hlo] at hlk
            simp only [Option.getD_none, Option.isSome_none] at hlk
            have HLO := Lib.hid hlo
            clear hlo
            have e0' := e0
            have a2 := a1
            have m2 := m1
            clear a1 m1
            go_wp2_with fail
            refine wp_region_looseM [0, 2, 3] [1, 4, 5] .done [] [] [6] [] [] (by kernel_rfl) (by kernel_rfl) (by intro c a d v w h; cases d <;> exact h) (by intro c a d v w h; cases d <;> exact h) rfl (fun r i h => by simp at h) ?_
            simp only [pick, List.filterMap_cons, List.filterMap_nil, List.getElem?_toArray, List.getElem?_cons_succ, List.getElem?_cons_zero]
            refine wpPure_step (.map (some W11.heap.size)) rfl (fun u => rfl) ?_
            refine wpPure_step (.slice (some ⟨b3, off3, none⟩) hs.length cap3) rfl (fun u => rfl) ?_
            refine wpPure_step (.int .i64 j) rfl (fun u => rfl) ?_
            intro u12 hu12
            clear g0 g1 e0
            have t2 := (hu12.block _ (size_of_block a2)).trans a2
            have zt2 := size_of_block t2
            have s0 := Joins.cell_of_block t2 0
            have s1 := Joins.cell_of_block t2 1
            have e0 := (hu12.cell (p := ⟨b3, off3 + j, none⟩) hz3).trans e0'
            have hz4 : b3 < u12.heap.size := Nat.lt_of_lt_of_le hz3 hu12.size
            have hcg : ∀ (g : Gr u12) b o, b < u12.heap.size → g.val.cell? ⟨b, o, none⟩ = u12.cell? ⟨b, o, none⟩ := fun g b o h => (bcell g.b).1 b o h
            iterate 3 (refine wpRel_step (fun K hK => ?_); go_simp; refine hK _ ?_; clear hK K)
            refine wpRel_nil fun V0 hb0 => ?_
            clear hcg s0 s1 e0 zt2 t2 hz4
            have D3 := below_then D2 (below_then hu12 hb0)
            have m3 := m2.later (below_then hu12 hb0)
            clear hu12 hb0 m2 a2 e0' hz3
            obtain ⟨W4, hrun, m4, hg4⟩ := update_new Try.underlying93 m3 p HLO.out h
            have D4 := D3.grown hg4 (Nat.le_of_lt (m3.lt)) (fun k e => by cases e; exact Nat.le_refl _)
            unfold sV at hrun
            clear hg4 m3 D3
            show wpPure _ _ _ _
            intro ks hks _ _
            obtain rfl : ks = [] := List.length_eq_zero_iff.1 hks
            clear hks
            show wpList _ _ _ _ _ _
            simp only [deco]
            go_wp2_with fail
            go_roundw
            case rel => exact ⟨j + 1, T ++ [(p, h)], by omega, by go_num, m4, by intro a; rw [HZS.out, List.mem_append, List.mem_append, HT.out a], D4⟩
            case measure => simp [intOf]; omega
          | some v9 =>
            rw [hlo] at hlk
            simp only [Option.getD_some, Option.isSome_some] at hlk
            have HLO := Lib.hid hlo
            clear hlo
            by_cases hvh : v9 = h
            · subst hvh
              have d9 : (v9 != v9) = false := by simp
              have e0' := e0
              have a2 := a1
              have m2 := m1
              clear a1 m1
              go_wp2_with fail
              refine wp_region_looseM [0, 2, 3] [1, 4, 5] .done [] [] [6] [] [] (by kernel_rfl) (by kernel_rfl) (by intro c a d v w h; cases d <;> exact h) (by intro c a d v w h; cases d <;> exact h) rfl (fun r i h => by simp at h) ?_
              simp only [pick, List.filterMap_cons, List.filterMap_nil, List.getElem?_toArray, List.getElem?_cons_succ, List.getElem?_cons_zero]
              refine wpPure_step (.map (some W11.heap.size)) rfl (fun u => rfl) ?_
              refine wpPure_step (.slice (some ⟨b3, off3, none⟩) hs.length cap3) rfl (fun u => rfl) ?_
              refine wpPure_step (.int .i64 j) rfl (fun u => rfl) ?_
              intro u12 hu12
              clear g0 g1 e0
              have t2 := (hu12.block _ (size_of_block a2)).trans a2
              have zt2 := size_of_block t2
              have s0 := Joins.cell_of_block t2 0
              have s1 := Joins.cell_of_block t2 1
              have e0 := (hu12.cell (p := ⟨b3, off3 + j, none⟩) hz3).trans e0'
              have hz4 : b3 < u12.heap.size := Nat.lt_of_lt_of_le hz3 hu12.size
              have hcg : ∀ (g : Gr u12) b o, b < u12.heap.size → g.val.cell? ⟨b, o, none⟩ = u12.cell? ⟨b, o, none⟩ := fun g b o h => (bcell g.b).1 b o h
              iterate 3 (refine wpRel_step (fun K hK => ?_); go_simp; refine hK _ ?_; clear hK K)
              refine wpRel_nil fun V0 hb0 => ?_
              clear hcg s0 s1 e0 zt2 t2 hz4
              have D3 := below_then D2 (below_then hu12 hb0)
              have m3 := m2.later (below_then hu12 hb0)
              clear hu12 hb0 m2 a2 e0' hz3
              obtain ⟨W4, hrun, m4, hg4⟩ := update_same Try.underlying93 m3 p v9 HLO.out
              have D4 := D3.grown hg4 (Nat.le_of_lt (m3.lt)) (fun k e => by cases e; exact Nat.le_refl _)
              unfold sV at hrun
              clear hg4 m3 D3
              show wpPure _ _ _ _
              intro ks hks _ _
              obtain rfl : ks = [] := List.length_eq_zero_iff.1 hks
              clear hks
              show wpList _ _ _ _ _ _
              simp only [deco]
              go_wp2_with fail
              go_roundw
              case rel => exact ⟨j + 1, T, by omega, by go_num, m4, by intro a; rw [HZS.out, List.mem_append, ← HT.out a]; exact ⟨.inl, fun h => h.elim id fun h => by rw [List.mem_singleton.1 h]; exact lookS_some HLO.out⟩, D4⟩
              case measure => simp [intOf]; omega
            · have d9 : (v9 != h) = true := by simpa using hvh
              obtain rfl : R = false := by
                rw [HRR.out]
                refine fits_two (p := p) (a := v9) (b := h) ?_ ?_ hvh
                · exact List.mem_of_mem_take ((HT.out _).1 (lookS_some HLO.out))
                · have := List.mem_append_right ((l.zip hs).take j) (List.mem_singleton.2 (rfl : (p, h) = (p, h)))
                  rw [← HZS.out] at this
                  exact List.mem_of_mem_take this
              clear hvh
              go_wp2_with fail
              refine bodyPost_ret (v := .tuple #[.bool false, .int .i64 0]) ?_ rfl ⟨by rw [HE.out], below_then B11'.out D2⟩
              simp [results, Try.results14, go_sem]
        · obtain rfl : j = l.length := by omega
          have hTT : ∀ a, a ∈ T ↔ a ∈ l.zip hs := by
            intro a
            rw [HT.out a, List.take_of_length_le (by rw [List.length_zip]; have := HLH.out; omega)]
          have hc := allows_c f S f.ls gf lb W11.heap.size T wr HS.out ((HG.out.later hD).more hD.size) hm (fun a ha => by
            obtain ⟨h1, h2⟩ := List.of_mem_zip ((hTT a).1 ha)
            exact ⟨HSP.out.2 _ h1, heat_iff.1 (List.all_eq_true.1 HHT.out.2 _ h2)⟩)
          rw [fits_set hTT, ← HRR.out] at hc
          unfold siV at hc
          have t1 := (hD.block _ zk1).trans R1.out
          have s0 := Joins.cell_of_block t1 0
          have s1 := Joins.cell_of_block t1 1
          have s2 := Joins.cell_of_block t1 2
          have s3 := Joins.cell_of_block t1 3
          have s4 := Joins.cell_of_block t1 4
          clear hTT
          go_wp2_with fail
          refine hc.mono ?_
          rintro e W9 ⟨rfl, hF⟩
          clear hc s0 s1 s2 s3 s4 t1
          go_wp2_with fail
          refine bodyPost_ret (v := .tuple #[.bool R, .int .i64 0]) ?_ rfl ⟨by rw [HE.out], below_then (below_then B11'.out hD) hF⟩
          simp [results, Try.results14, go_sem]
    · have d1 : (ke != 0) = true := by simpa using h0
      obtain rfl : R = false := by rw [HR.out]; unfold fitsR; rw [HE.out, if_neg h0]
      clear h0 HZ HN HROW K11 hpe1 hpe2 hke h5 h1c
      go_wp2_with fail
      refine bodyPost_ret (v := .tuple #[.bool false, .int .i64 ke]) ?_ rfl ⟨by rw [HE.out], B11⟩
      simp [results, Try.results14, go_sem]
end Go.Proofs.Ytjpoacffnpgjdaa
