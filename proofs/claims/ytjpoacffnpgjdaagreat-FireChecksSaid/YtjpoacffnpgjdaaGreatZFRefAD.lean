/- The reference for fires: Rests, Suspects (written by tools/genrestr.py). -/
import Derived.Test.YtjpoacffnpgjdaaGreatZFRefAC
import Derived.Test.YtjpoacffnpgjdaaGreatJ4
namespace Go.Proofs.YtjpoacffnpgjdaaGreat
open Go Go.RowKit Go.Shelf
attribute [local go_sem] Oper.semAt_some Rel RelAt RelUpon

theorem ids_snoc (P : Lk → Bool) (l : List Lk) (x : Lk) : idsI P (l ++ [x]) = if P x then putI (idsI P l) x.id else idsI P l := by
  unfold idsI
  rw [List.filter_append, List.map_append, List.filter_cons, List.filter_nil]
  cases P x with
  | true => exact putAll_snoc _ _
  | false => show putAll (_ ++ []) = _; rw [List.append_nil]; rfl
theorem idsI_len (P : Lk → Bool) (l : List Lk) : (idsI P l).length ≤ l.length := by
  unfold idsI
  rw [(putAll_spec _).1.length_eq, List.length_map]
  exact List.length_filter_le _ _
theorem rest_one (f : Fi) (ls : List Lk) (p : Spt) (id : Int) : restB f ls p id = !((endLo ⟨f.rise, f.fall, f.up, f.down, butL ls [id]⟩ (butL ls [id]) p == endLo f ls p) && (endHi ⟨f.rise, f.fall, f.up, f.down, butL ls [id]⟩ (butL ls [id]) p == endHi f ls p)) := by
  rw [but1_eq]; rfl
theorem susp_one (f : Fi) (ls : List Lk) (id : Int) : agreeB f (but1 ls id) = agreeB ⟨f.rise, f.fall, f.up, f.down, butL ls [id]⟩ (butL ls [id]) := by
  rw [but1_eq]; rfl
set_option maxRecDepth 100000 in
set_option maxHeartbeats 8000000 in
theorem RestsR_c (f : Fi) (vl : Value) (p : Spt) (w : World) (hl : Lks w w.heap.size vl f.ls) :
    Calls Tryz.prog 27 #[fiV f vl, sV p] w fun e w' => ∃ u, e = .returned (.agg #[u, .int .i64 (endsE f p)]) ∧ w'.ownsRow w.heap.size 3 1 u (restsR f p).length ((restsR f p).map (Value.int .i64)) ∧ Below w.heap.size w w' := by
  have hl' := hl
  obtain ⟨A, cap, rfl, _, hn, hat⟩ := Lks.open_ hl
  have H := Lib.hid hat
  have HK := Lib.hid hl'
  clear hl hl' hat
  have x0 := fun W v h h1 => asked_r f (.slice A f.ls.length cap) v [p] W h h1
  rw [list_one] at x0
  obtain ⟨q0, q1, q2, q3, -, qb⟩ := four_new w (.cells #[.int .i64 f.rise, .int .i64 f.fall, .int .i64 f.up, .int .i64 f.down, .slice A f.ls.length cap] 24) (.cells #[.int .i64 p.foot, .int .i64 p.hour] 26) (.cells #[.slice none 0 0, .int .i64 0] 41) (.cells #[.int .i64 p.foot, .int .i64 p.hour] 26)
  have hs := spts1 q3
  have HK1 := Lib.hid (HK.out.later qb)
  have HS1 := Lib.hid hs
  clear hs q3
  by_cases hE : endsE f p = 0
  · obtain ⟨hok, hp⟩ := ends_ok hE
    have hD : restsR f p = idsI (fun x => restB f f.ls p x.id) f.ls := by unfold restsR; rw [if_pos hE]; rfl
    rw [hD, hE]
    rw [hE] at x0
    have hbk := fun id => but_ok hok [id]
    have hl24 := hok.len
    have XW := Lib.hid (fun W id vi h hi => without_r f (.slice A f.ls.length cap) vi [id] W h hi (by omega))
    have XE := Lib.hid (fun W id u h => ends_r (withF f (butL f.ls [id])) u p W h (hbk id).slope (hbk id).look hp)
    have XF := Lib.hid (fun W h => ends_r f (.slice A f.ls.length cap) p W h hok.slope hok.look hp)
    obtain ⟨L9, hL9⟩ : ∃ L, L = idsI (fun x => restB f f.ls p x.id) f.ls := ⟨_, rfl⟩
    rw [← hL9]
    have HL9 := Lib.hid hL9
    have HSN : Hid (∀ (j : Nat) x, f.ls[j]? = some x → idsI (fun x => restB f f.ls p x.id) (f.ls.take (j + 1)) = if restB f f.ls p x.id then putI (idsI (fun x => restB f f.ls p x.id) (f.ls.take j)) x.id else idsI (fun x => restB f f.ls p x.id) (f.ls.take j)) := fun j x hx => by rw [take_snoc hx, ids_snoc]
    have HLN : Hid (∀ j : Nat, (idsI (fun x => restB f f.ls p x.id) (f.ls.take j)).length ≤ 24) := fun j => by
      have h1 := idsI_len (fun x => restB f f.ls p x.id) (f.ls.take j)
      have h2 := List.length_take_le j f.ls
      have h3 := List.length_take_le' j f.ls
      omega
    have HZ : Hid (idsI (fun x => restB f f.ls p x.id) (f.ls.take 0) = []) := rfl
    have X0 := Lib.hid x0
    clear hD hL9 hE hok hbk x0 hp
    unfold fiV at XW XE XF
    unfold sV at XE XF
    dsimp only [withF] at XW XE
    unfold fiV sV
    go_enter Tryz.func27, Tryz.ntmps27
    go_wp2_with fail
    generalize (((w.alloc _).alloc _).alloc _).alloc _ = W2 at q0 q1 q2 qb HK1 HS1 ⊢
    refine (X0.out W2 _ HK1.out HS1.out).mono ?_
    rintro e W3 ⟨rfl, hF⟩
    have bf := (hF.block _ (size_of_block q0)).trans q0
    have bp := (hF.block _ (size_of_block q1)).trans q1
    have br := (hF.block _ (size_of_block q2)).trans q2
    have hbw := below_then qb hF
    clear hF q0 q1 q2 qb
    go_wp2_with fail
    go_loopw [6, 7] (fun v i wr => ∃ j : Nat, j ≤ f.ls.length ∧ i = .int .i64 j ∧ wr.ownsRow w.heap.size 3 1 v (idsI (fun x => restB f f.ls p x.id) (f.ls.take j)).length ((idsI (fun x => restB f f.ls p x.id) (f.ls.take j)).map (Value.int .i64)) ∧ wr.heap[w.heap.size]? = some (.cells #[.int .i64 f.rise, .int .i64 f.fall, .int .i64 f.up, .int .i64 f.down, .slice A f.ls.length cap] 24) ∧ wr.heap[w.heap.size + 1]? = some (.cells #[.int .i64 p.foot, .int .i64 p.hour] 26) ∧ wr.heap[w.heap.size + 1 + 1]? = some (.cells #[.slice none 0 0, .int .i64 0] 41) ∧ Below w.heap.size w wr) (fun _ i _ => f.ls.length - (intOf i).toNat)
    case atStart => exact ⟨0, Nat.zero_le _, rfl, by rw [HZ.out]; exact World.ownsRow_nil _ _ _ _, bf, bp, br, hbw⟩
    case round =>
      clear bf bp br hbw
      obtain ⟨j, hj, rfl, hown, bf, bp, br, hbw⟩ := hrel
      by_cases hlt : j < f.ls.length
      · obtain ⟨b, off, x, rfl, hb, hx0, y0, -, -, -, -⟩ := H.out j hlt
        have hsn := HSN.out j x hx0
        have hln := HLN.out j
        rw [rest_one] at hsn
        have xw := fun W vi h hi => XW.out W x.id vi h hi
        have xe := fun W u h => XE.out W x.id u h
        have HNX := Lib.hid hsn
        clear hx0 hsn
        generalize endLo ⟨f.rise, f.fall, f.up, f.down, butL f.ls [x.id]⟩ (butL f.ls [x.id]) p = lo1 at xe HNX
        generalize endHi ⟨f.rise, f.fall, f.up, f.down, butL f.ls [x.id]⟩ (butL f.ls [x.id]) p = hi1 at xe HNX
        have xf := XF.out
        have hne := fun W => Tryz.neSp lo1 hi1 (endLo f f.ls p) (endHi f f.ls p) W
        generalize endLo f f.ls p = lo2 at xf HNX hne
        generalize endHi f f.ls p = hi2 at xf HNX hne
        have HNE := Lib.hid hne
        clear hne
        have zf := size_of_block bf
        have cf4 := Joins.cell_of_block bf 4
        go_wp2_with fail
        refine wp_region_looseM [] [0, 1, 2, 3, 4, 5, 6, 9, 11, 12] (.one 7 (.one 8 (.one 10 (.one 13 .done)))) [] [14] [] [] [] (by kernel_rfl) (by kernel_rfl) (by intro c a d v w h; cases d <;> exact h) (by intro c a d v w h; cases d <;> exact h) rfl (fun r i h => by simp at h) ?_
        simp only [pick, List.filterMap_cons, List.filterMap_nil, List.getElem?_toArray, List.getElem?_cons_succ, List.getElem?_cons_zero]
        intro u hu
        clear cf4
        have tf := (hu.block _ zf).trans bf
        have ztf := size_of_block tf
        have k0 := Joins.cell_of_block tf 0
        have k1 := Joins.cell_of_block tf 1
        have k2 := Joins.cell_of_block tf 2
        have k3 := Joins.cell_of_block tf 3
        have k4 := Joins.cell_of_block tf 4
        have tp := (hu.block _ (size_of_block bp)).trans bp
        have ztp := size_of_block tp
        have g0 := Joins.cell_of_block tp 0
        have g1 := Joins.cell_of_block tp 1
        have hbu := below_then hbw hu
        have e0 := (hbu.cell (p := ⟨b, off + j * 5, none⟩) hb).trans y0
        have hzu : b < u.heap.size := Nat.lt_of_lt_of_le hb hbu.size
        have hcg : ∀ (g : Gr u) b o, b < u.heap.size → g.val.cell? ⟨b, o, none⟩ = u.cell? ⟨b, o, none⟩ := fun g b o h => (bcell g.b).1 b o h
        iterate 10 (refine wpRel_step (fun K hK => ?_); go_simp; refine hK _ ?_; clear hK K)
        refine wpRel_nil fun V0 hb0 => ?_
        clear hcg k0 k1 k2 k3 k4 e0 ztf tf hzu hbu tp ztp g0 g1
        have D0 := below_then hu hb0
        clear hb0 hu
        refine wpTr_step rfl rfl fun K hK => ?_
        go_simp
        refine hK _ _ (below_alloc _ _) fun V1 hu1 => ?_
        clear hK K
        have hn1 := (builtL nC_len V0 [x.id] 3 #[.int .i64 x.id] V0.heap.size 1 rfl (by simp) rfl rfl).later hu1
        have D1 := below_then D0 (below_then (below_alloc V0 (.cells #[.int .i64 x.id] 3)) hu1)
        clear hu1 D0
        refine wpTr_step rfl rfl fun K hK => ?_
        go_simp
        refine (xw V1 _ (HK.out.later (below_then hbw D1)) hn1).mono ?_
        rintro e X ⟨lv, rfl, hlv, hx9⟩
        refine hK _ _ hx9 fun V2 hu2 => ?_
        clear hK K hn1
        replace hlv := hlv.later hu2
        have D2 := below_then D1 (below_then hx9 hu2)
        clear hx9 hu2 D1
        refine wpTr_step rfl rfl fun K hK => ?_
        go_simp
        refine (xe V2 _ hlv).mono ?_
        rintro e X ⟨rfl, hx9⟩
        refine hK _ _ hx9 fun V3 hu3 => ?_
        clear hK K hlv
        have D3 := below_then D2 (below_then hx9 hu3)
        clear hx9 hu3 D2
        refine wpTr_step rfl rfl fun K hK => ?_
        go_simp
        refine (xf V3 (HK.out.later (below_then hbw D3))).mono ?_
        rintro e X ⟨rfl, hx9⟩
        refine hK _ _ hx9 fun V4 hu4 => ?_
        clear hK K
        have D4 := below_then D3 (below_then hx9 hu4)
        clear hx9 hu4 D3
        show wpPure _ _ _ _
        refine wpPure_step (.bool (!(lo1 == lo2 && hi1 == hi2))) rfl (fun u => by simp [execOp, go_sem, HNE.out]) ?_
        intro ks hks _ _
        obtain rfl : ks = [] := List.length_eq_zero_iff.1 hks
        clear hks
        show wpList _ _ _ _ _ _
        simp only [deco]
        try simp only [Act.put, List.setIfInBounds_toArray, List.set_cons_zero, List.set_cons_succ]
        replace bf := (D4.block _ (size_of_block bf)).trans bf
        replace bp := (D4.block _ (size_of_block bp)).trans bp
        replace br := (D4.block _ (size_of_block br)).trans br
        replace hown := own_below hown D4
        replace hbw := below_then hbw D4
        clear D4 xw xe xf zf
        have hint := Ints.of_own hown (by omega)
        obtain ⟨A9, c9, rfl⟩ := own_form hown
        cases hbv : (!(lo1 == lo2 && hi1 == hi2)) with
        | true =>
          have HN2 := HNX.out.trans (if_pos hbv)
          have HN3 := Lib.hid HN2
          clear HN2 HNX hbv
          have cf4 := Joins.cell_of_block bf 4
          have d0 := (hbw.cell (p := ⟨b, off + j * 5, none⟩) hb).trans y0
          go_wp2_with fail
          refine (put_r _ _ x.id V4 hint (by omega)).mono ?_
          rintro e W9 ⟨u9, rfl, ho9, hF⟩
          replace bf := (hF.block _ (size_of_block bf)).trans bf
          replace bp := (hF.block _ (size_of_block bp)).trans bp
          replace br := (hF.block _ (size_of_block br)).trans br
          have hsz := hbw.size
          replace hbw := below_then hbw hF
          have ho := own_base ho9 hsz
          clear hF hown ho9 cf4 d0 hint
          go_wp2_with fail
          go_roundw
          case rel => exact ⟨j + 1, by omega, by go_num, by rw [HN3.out]; exact ho, bf, bp, br, hbw⟩
          case measure => simp [intOf]; omega
        | false =>
          have HN2 := HNX.out.trans (if_neg (by rw [hbv]; exact Bool.false_ne_true))
          have HN3 := Lib.hid HN2
          clear HN2 HNX hbv
          go_wp2_with fail
          go_roundw
          case rel => exact ⟨j + 1, by omega, by go_num, by rw [HN3.out]; exact hown, bf, bp, br, hbw⟩
          case measure => simp [intOf]; omega
      · obtain rfl : j = f.ls.length := by omega
        rw [List.take_length, ← HL9.out] at hown
        have cf4 := Joins.cell_of_block bf 4
        obtain ⟨A9, c9, rfl⟩ := own_form hown
        have hne := own_ne_block hown br (by decide)
        have HO := Lib.hid (hown.kept (twice_set wr (w.heap.size + 1 + 1) (.slice A9 L9.length c9) (.int .i64 0)) (.inr hne))
        clear hne
        have e0 := Joins.cell_of_block br 0
        have e1 := Joins.cell_of_block br 1
        have f0 := Joins.unfrozen_of_block br 0
        have f1 := Joins.unfrozen_of_block br 1
        have HPP := Lib.hid (put2 (.slice A9 L9.length c9) (.int .i64 0) br)
        go_wp2_with fail
        refine bodyPost_ret (v := .agg #[(.slice A9 L9.length c9), .int .i64 0]) ?_ rfl ⟨_, rfl, HO.out, below_set (below_set hbw (by omega)) (by omega)⟩
        simp [results, Tryz.results27, go_sem, HPP.out.1, HPP.out.2]
  · have hD : restsR f p = [] := by unfold restsR; rw [if_neg hE]
    rw [hD]
    have d1 : (endsE f p != 0) = true := by simpa using hE
    clear hD hE
    generalize endsE f p = E at x0 d1 ⊢
    have X0 := Lib.hid x0
    clear x0
    unfold fiV sV
    go_enter Tryz.func27, Tryz.ntmps27
    go_wp2_with fail
    generalize (((w.alloc _).alloc _).alloc _).alloc _ = W2 at q0 q1 q2 qb HK1 HS1 ⊢
    refine (X0.out W2 _ HK1.out HS1.out).mono ?_
    rintro e W3 ⟨rfl, hF⟩
    have bf := (hF.block _ (size_of_block q0)).trans q0
    have bp := (hF.block _ (size_of_block q1)).trans q1
    have br := (hF.block _ (size_of_block q2)).trans q2
    have hbw := below_then qb hF
    clear hF q0 q1 q2 qb
    have e0 := Joins.cell_of_block br 0
    have e1 := Joins.cell_of_block br 1
    have f0 := Joins.unfrozen_of_block br 0
    have f1 := Joins.unfrozen_of_block br 1
    have HPP := Lib.hid (put2 (.slice none 0 0) (.int .i64 E) br)
    go_wp2_with fail
    refine bodyPost_ret (v := .agg #[(.slice none 0 0), .int .i64 E]) ?_ rfl ⟨_, rfl, World.ownsRow_nil _ _ _ _, below_set (below_set hbw (by omega)) (by omega)⟩
    simp [results, Tryz.results27, go_sem, HPP.out.1, HPP.out.2]
set_option maxRecDepth 100000 in
set_option maxHeartbeats 8000000 in
theorem SuspectsR_c (f : Fi) (vl : Value) (w : World) (hl : Lks w w.heap.size vl f.ls) :
    Calls Tryz.prog 15 #[fiV f vl] w fun e w' => ∃ u, e = .returned (.agg #[u, .int .i64 (fireI f)]) ∧ w'.ownsRow w.heap.size 3 1 u (suspR f).length ((suspR f).map (Value.int .i64)) ∧ Below w.heap.size w w' := by
  have hl' := hl
  obtain ⟨A, cap, rfl, _, hn, hat⟩ := Lks.open_ hl
  have H := Lib.hid hat
  have HK := Lib.hid hl'
  clear hl hl' hat
  have x0 := fun W h => CheckR_c f (.slice A f.ls.length cap) W h
  obtain ⟨q0, q2, -, qb⟩ := two_new' w (.cells #[.int .i64 f.rise, .int .i64 f.fall, .int .i64 f.up, .int .i64 f.down, .slice A f.ls.length cap] 24) (.cells #[.slice none 0 0, .int .i64 0] 41)
  have HK1 := Lib.hid (HK.out.later qb)
  by_cases hE : fireI f = 0
  · have hok := fire_ok hE
    have XG := Lib.hid (fun W h => agree_r f (.slice A f.ls.length cap) W h hok.slope hok.look)
    rw [hE] at x0 ⊢
    have X0 := Lib.hid x0
    clear x0
    cases hag : agreeB f f.ls with
    | true =>
      have hD : suspR f = [] := by unfold suspR suspL; rw [if_pos hE, if_pos hag]
      rw [hD]
      clear hD hE hok
      unfold fiV
      go_enter Tryz.func15, Tryz.ntmps15
      go_wp2_with fail
      generalize (w.alloc _).alloc _ = W2 at q0 q2 qb HK1 ⊢
      refine (X0.out W2 HK1.out).mono ?_
      rintro e W3 ⟨rfl, hF⟩
      have bf := (hF.block _ (size_of_block q0)).trans q0
      have br := (hF.block _ (size_of_block q2)).trans q2
      have hbw := below_then qb hF
      clear hF q0 q2 qb
      have k0 := Joins.cell_of_block bf 0
      have k1 := Joins.cell_of_block bf 1
      have k2 := Joins.cell_of_block bf 2
      have k3 := Joins.cell_of_block bf 3
      have k4 := Joins.cell_of_block bf 4
      have hk := HK.out.later hbw
      go_wp2_with fail
      refine (XG.out W3 hk).mono ?_
      rw [hag]
      rintro e W4 ⟨rfl, hF⟩
      replace br := (hF.block _ (size_of_block br)).trans br
      replace hbw := below_then hbw hF
      clear hF hk k0 k1 k2 k3 k4
      have e0 := Joins.cell_of_block br 0
      have e1 := Joins.cell_of_block br 1
      have f0 := Joins.unfrozen_of_block br 0
      have f1 := Joins.unfrozen_of_block br 1
      have HPP := Lib.hid (put2 (.slice none 0 0) (.int .i64 0) br)
      go_wp2_with fail
      refine bodyPost_ret (v := .agg #[(.slice none 0 0), .int .i64 0]) ?_ rfl ⟨_, rfl, World.ownsRow_nil _ _ _ _, below_set (below_set hbw (by omega)) (by omega)⟩
      simp [results, Tryz.results15, go_sem, HPP.out.1, HPP.out.2]
    | false =>
      have hD : suspR f = idsI (fun x => agreeB f (but1 f.ls x.id)) f.ls := by unfold suspR suspL; rw [if_pos hE, if_neg (by rw [hag]; simp)]
      rw [hD]
      have hbk := fun id => but_ok hok [id]
      have hl24 := hok.len
      have XW := Lib.hid (fun W id vi h hi => without_r f (.slice A f.ls.length cap) vi [id] W h hi (by omega))
      have XE := Lib.hid (fun W id u h => agree_r (withF f (butL f.ls [id])) u W h (hbk id).slope (hbk id).look)
      obtain ⟨L9, hL9⟩ : ∃ L, L = idsI (fun x => agreeB f (but1 f.ls x.id)) f.ls := ⟨_, rfl⟩
      rw [← hL9]
      have HL9 := Lib.hid hL9
      have HSN : Hid (∀ (j : Nat) x, f.ls[j]? = some x → idsI (fun x => agreeB f (but1 f.ls x.id)) (f.ls.take (j + 1)) = if agreeB f (but1 f.ls x.id) then putI (idsI (fun x => agreeB f (but1 f.ls x.id)) (f.ls.take j)) x.id else idsI (fun x => agreeB f (but1 f.ls x.id)) (f.ls.take j)) := fun j x hx => by rw [take_snoc hx, ids_snoc]
      have HLN : Hid (∀ j : Nat, (idsI (fun x => agreeB f (but1 f.ls x.id)) (f.ls.take j)).length ≤ 24) := fun j => by
        have h1 := idsI_len (fun x => agreeB f (but1 f.ls x.id)) (f.ls.take j)
        have h2 := List.length_take_le j f.ls
        have h3 := List.length_take_le' j f.ls
        omega
      have HZ : Hid (idsI (fun x => agreeB f (but1 f.ls x.id)) (f.ls.take 0) = []) := rfl
      clear hD hL9 hE hok hbk 
      unfold fiV at XW XE 
      dsimp only [withF] at XW XE
      unfold fiV
      go_enter Tryz.func15, Tryz.ntmps15
      go_wp2_with fail
      generalize (w.alloc _).alloc _ = W2 at q0 q2 qb HK1 ⊢
      refine (X0.out W2 HK1.out).mono ?_
      rintro e W3 ⟨rfl, hF⟩
      have bf := (hF.block _ (size_of_block q0)).trans q0
      have br := (hF.block _ (size_of_block q2)).trans q2
      have hbw := below_then qb hF
      clear hF q0 q2 qb
      have k0 := Joins.cell_of_block bf 0
      have k1 := Joins.cell_of_block bf 1
      have k2 := Joins.cell_of_block bf 2
      have k3 := Joins.cell_of_block bf 3
      have k4 := Joins.cell_of_block bf 4
      have hk := HK.out.later hbw
      go_wp2_with fail
      refine (XG.out W3 hk).mono ?_
      rw [hag]
      rintro e W4 ⟨rfl, hF⟩
      replace bf := (hF.block _ (size_of_block bf)).trans bf
      replace br := (hF.block _ (size_of_block br)).trans br
      replace hbw := below_then hbw hF
      clear hF hk k0 k1 k2 k3 k4
      go_wp2_with fail
      go_loopw [5, 6] (fun v i wr => ∃ j : Nat, j ≤ f.ls.length ∧ i = .int .i64 j ∧ wr.ownsRow w.heap.size 3 1 v (idsI (fun x => agreeB f (but1 f.ls x.id)) (f.ls.take j)).length ((idsI (fun x => agreeB f (but1 f.ls x.id)) (f.ls.take j)).map (Value.int .i64)) ∧ wr.heap[w.heap.size]? = some (.cells #[.int .i64 f.rise, .int .i64 f.fall, .int .i64 f.up, .int .i64 f.down, .slice A f.ls.length cap] 24) ∧ wr.heap[w.heap.size + 1]? = some (.cells #[.slice none 0 0, .int .i64 0] 41) ∧ Below w.heap.size w wr) (fun _ i _ => f.ls.length - (intOf i).toNat)
      case atStart => exact ⟨0, Nat.zero_le _, rfl, by rw [HZ.out]; exact World.ownsRow_nil _ _ _ _, bf, br, hbw⟩
      case round =>
        clear bf br hbw
        obtain ⟨j, hj, rfl, hown, bf, br, hbw⟩ := hrel
        by_cases hlt : j < f.ls.length
        · obtain ⟨b, off, x, rfl, hb, hx0, y0, -, -, -, -⟩ := H.out j hlt
          have hsn := HSN.out j x hx0
          have hln := HLN.out j
          rw [susp_one] at hsn
          have xw := fun W vi h hi => XW.out W x.id vi h hi
          have xe := fun W u h => XE.out W x.id u h
          have HNX := Lib.hid hsn
          clear hx0 hsn
          generalize agreeB ⟨f.rise, f.fall, f.up, f.down, butL f.ls [x.id]⟩ (butL f.ls [x.id]) = bb at xe HNX
          have zf := size_of_block bf
          have cf4 := Joins.cell_of_block bf 4
          go_wp2_with fail
          refine wp_region_looseM [] [0, 1, 2, 3, 4, 5, 6] (.one 7 (.one 8 (.one 9 .done))) [] [] [10] [] [] (by kernel_rfl) (by kernel_rfl) (by intro c a d v w h; cases d <;> exact h) (by intro c a d v w h; cases d <;> exact h) rfl (fun r i h => by simp at h) ?_
          simp only [pick, List.filterMap_cons, List.filterMap_nil, List.getElem?_toArray, List.getElem?_cons_succ, List.getElem?_cons_zero]
          intro u hu
          clear cf4
          have tf := (hu.block _ zf).trans bf
          have ztf := size_of_block tf
          have k0 := Joins.cell_of_block tf 0
          have k1 := Joins.cell_of_block tf 1
          have k2 := Joins.cell_of_block tf 2
          have k3 := Joins.cell_of_block tf 3
          have k4 := Joins.cell_of_block tf 4
          have hbu := below_then hbw hu
          have e0 := (hbu.cell (p := ⟨b, off + j * 5, none⟩) hb).trans y0
          have hzu : b < u.heap.size := Nat.lt_of_lt_of_le hb hbu.size
          have hcg : ∀ (g : Gr u) b o, b < u.heap.size → g.val.cell? ⟨b, o, none⟩ = u.cell? ⟨b, o, none⟩ := fun g b o h => (bcell g.b).1 b o h
          iterate 7 (refine wpRel_step (fun K hK => ?_); go_simp; refine hK _ ?_; clear hK K)
          refine wpRel_nil fun V0 hb0 => ?_
          clear hcg k0 k1 k2 k3 k4 e0 ztf tf hzu hbu 
          have D0 := below_then hu hb0
          clear hb0 hu
          refine wpTr_step rfl rfl fun K hK => ?_
          go_simp
          refine hK _ _ (below_alloc _ _) fun V1 hu1 => ?_
          clear hK K
          have hn1 := (builtL nC_len V0 [x.id] 3 #[.int .i64 x.id] V0.heap.size 1 rfl (by simp) rfl rfl).later hu1
          have D1 := below_then D0 (below_then (below_alloc V0 (.cells #[.int .i64 x.id] 3)) hu1)
          clear hu1 D0
          refine wpTr_step rfl rfl fun K hK => ?_
          go_simp
          refine (xw V1 _ (HK.out.later (below_then hbw D1)) hn1).mono ?_
          rintro e X ⟨lv, rfl, hlv, hx9⟩
          refine hK _ _ hx9 fun V2 hu2 => ?_
          clear hK K hn1
          replace hlv := hlv.later hu2
          have D2 := below_then D1 (below_then hx9 hu2)
          clear hx9 hu2 D1
          refine wpTr_step rfl rfl fun K hK => ?_
          go_simp
          refine (xe V2 _ hlv).mono ?_
          rintro e X ⟨rfl, hx9⟩
          refine hK _ _ hx9 fun V3 hu3 => ?_
          clear hK K hlv
          have D3 := below_then D2 (below_then hx9 hu3)
          clear hx9 hu3 D2
          show wpPure _ _ _ _
          intro ks hks _ _
          obtain rfl : ks = [] := List.length_eq_zero_iff.1 hks
          clear hks
          show wpList _ _ _ _ _ _
          simp only [deco]
          try simp only [Act.put, List.setIfInBounds_toArray, List.set_cons_zero, List.set_cons_succ]
          replace bf := (D3.block _ (size_of_block bf)).trans bf
          replace br := (D3.block _ (size_of_block br)).trans br
          replace hown := own_below hown D3
          replace hbw := below_then hbw D3
          clear D3 xw xe  zf
          have hint := Ints.of_own hown (by omega)
          obtain ⟨A9, c9, rfl⟩ := own_form hown
          cases hbv : bb with
          | true =>
            have HN2 := HNX.out.trans (if_pos hbv)
            have HN3 := Lib.hid HN2
            clear HN2 HNX hbv
            have cf4 := Joins.cell_of_block bf 4
            have d0 := (hbw.cell (p := ⟨b, off + j * 5, none⟩) hb).trans y0
            go_wp2_with fail
            refine (put_r _ _ x.id V3 hint (by omega)).mono ?_
            rintro e W9 ⟨u9, rfl, ho9, hF⟩
            replace bf := (hF.block _ (size_of_block bf)).trans bf
            replace br := (hF.block _ (size_of_block br)).trans br
            have hsz := hbw.size
            replace hbw := below_then hbw hF
            have ho := own_base ho9 hsz
            clear hF hown ho9 cf4 d0 hint
            go_wp2_with fail
            go_roundw
            case rel => exact ⟨j + 1, by omega, by go_num, by rw [HN3.out]; exact ho, bf, br, hbw⟩
            case measure => simp [intOf]; omega
          | false =>
            have HN2 := HNX.out.trans (if_neg (by rw [hbv]; exact Bool.false_ne_true))
            have HN3 := Lib.hid HN2
            clear HN2 HNX hbv
            go_wp2_with fail
            go_roundw
            case rel => exact ⟨j + 1, by omega, by go_num, by rw [HN3.out]; exact hown, bf, br, hbw⟩
            case measure => simp [intOf]; omega
        · obtain rfl : j = f.ls.length := by omega
          rw [List.take_length, ← HL9.out] at hown
          have cf4 := Joins.cell_of_block bf 4
          obtain ⟨A9, c9, rfl⟩ := own_form hown
          have hne := own_ne_block hown br (by decide)
          have HO := Lib.hid (hown.kept (twice_set wr (w.heap.size + 1) (.slice A9 L9.length c9) (.int .i64 0)) (.inr hne))
          clear hne
          have e0 := Joins.cell_of_block br 0
          have e1 := Joins.cell_of_block br 1
          have f0 := Joins.unfrozen_of_block br 0
          have f1 := Joins.unfrozen_of_block br 1
          have HPP := Lib.hid (put2 (.slice A9 L9.length c9) (.int .i64 0) br)
          go_wp2_with fail
          refine bodyPost_ret (v := .agg #[(.slice A9 L9.length c9), .int .i64 0]) ?_ rfl ⟨_, rfl, HO.out, below_set (below_set hbw (by omega)) (by omega)⟩
          simp [results, Tryz.results15, go_sem, HPP.out.1, HPP.out.2]
  · have hD : suspR f = [] := by unfold suspR; rw [if_neg hE]
    rw [hD]
    have d1 : (fireI f != 0) = true := by simpa using hE
    clear hD hE
    generalize fireI f = E at x0 d1 ⊢
    have X0 := Lib.hid x0
    clear x0
    unfold fiV
    go_enter Tryz.func15, Tryz.ntmps15
    go_wp2_with fail
    generalize (w.alloc _).alloc _ = W2 at q0 q2 qb HK1 ⊢
    refine (X0.out W2 HK1.out).mono ?_
    rintro e W3 ⟨rfl, hF⟩
    have bf := (hF.block _ (size_of_block q0)).trans q0
    have br := (hF.block _ (size_of_block q2)).trans q2
    have hbw := below_then qb hF
    clear hF q0 q2 qb
    have e0 := Joins.cell_of_block br 0
    have e1 := Joins.cell_of_block br 1
    have f0 := Joins.unfrozen_of_block br 0
    have f1 := Joins.unfrozen_of_block br 1
    have HPP := Lib.hid (put2 (.slice none 0 0) (.int .i64 E) br)
    go_wp2_with fail
    refine bodyPost_ret (v := .agg #[(.slice none 0 0), .int .i64 E]) ?_ rfl ⟨_, rfl, World.ownsRow_nil _ _ _ _, below_set (below_set hbw (by omega)) (by omega)⟩
    simp [results, Tryz.results15, go_sem, HPP.out.1, HPP.out.2]
end Go.Proofs.YtjpoacffnpgjdaaGreat
