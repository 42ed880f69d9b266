/- The reference for fires: Far, Without (written by tools/genclashr.py). -/
import Derived.Test.YtjpoacffnpgjdaaGreatJ22
import Derived.Test.YtjpoacffnpgjdaaGreatZFRefAC
namespace Go.Proofs.YtjpoacffnpgjdaaGreat
open Go Go.RowKit Go.Shelf
attribute [local go_sem] Oper.semAt_some Rel RelAt RelUpon

set_option maxRecDepth 100000 in
set_option maxHeartbeats 4000000 in
theorem FarR_c (f : Fi) (vl : Value) (p q : Spt) (w : World) (hl : Lks w w.heap.size vl f.ls) :
    Calls Tryz.prog 11 #[fiV f vl, sV p, sV q] w fun e w' => e = .returned (.tuple #[.int .i64 (farR f p q), .int .i64 (farE f p q)]) ∧ Below w.heap.size w w' := by
  obtain ⟨A, cap, rfl⟩ := hl.form
  have HK := Lib.hid hl
  clear hl
  have x1 := fun W h => CheckR_c f (.slice A f.ls.length cap) W h
  have y1 := fun W => spot_r p W
  have y2 := fun W => spot_r q W
  by_cases hE : fireI f = 0
  · have hsl := (fire_ok hE).slope
    have e2 : farE f p q = spot2E p q := by unfold farE; rw [if_neg (by simp [hE])]
    have e1 : farR f p q = if spot2E p q = 0 then farI f p q else 0 := by unfold farR; rw [e2]
    rw [e1, e2]
    rw [hE] at x1
    clear e1 e2 hE
    cases hp : spotB p with
    | false =>
      have eE : spot2E p q = 1 := by unfold spot2E; rw [hp]; rfl
      rw [eE, if_neg (by decide)]
      rw [hp] at y1
      clear eE hp hsl
      cases hq : spotB q
      all_goals
        rw [hq] at y2
        clear hq
        have X1 := Lib.hid x1
        have Y1 := Lib.hid y1
        have Y2 := Lib.hid y2
        clear x1 y1 y2
        unfold fiV at X1
        unfold sV at Y1 Y2
        unfold fiV sV
        go_enter Tryz.func11, Tryz.ntmps11
        obtain ⟨bf, bp, bq, -, HB⟩ := three_new w (.cells #[.int .i64 f.rise, .int .i64 f.fall, .int .i64 f.up, .int .i64 f.down, .slice A f.ls.length cap] 24) (.cells #[.int .i64 p.foot, .int .i64 p.hour] 26) (.cells #[.int .i64 q.foot, .int .i64 q.hour] 26)
        go_wp2_with fail
        generalize (((w.alloc (.cells #[.int .i64 f.rise, .int .i64 f.fall, .int .i64 f.up, .int .i64 f.down, .slice A f.ls.length cap] 24)).alloc (.cells #[.int .i64 p.foot, .int .i64 p.hour] 26)).alloc (.cells #[.int .i64 q.foot, .int .i64 q.hour] 26)) = w1 at bf bp bq HB  ⊢
        have hB := HB
        clear HB
        have hk := HK.out.later hB
        refine (X1.out w1 hk).mono ?_
        rintro e w2 ⟨rfl, hF⟩
        replace bf := (hF.block _ (size_of_block bf)).trans bf
        replace bp := (hF.block _ (size_of_block bp)).trans bp
        replace bq := (hF.block _ (size_of_block bq)).trans bq
        replace hk := hk.later hF
        replace hB := below_then hB hF
        clear hF
        have cbp0 := Joins.cell_of_block bp 0
        have cbp1 := Joins.cell_of_block bp 1
        go_wp2_with fail
        refine (Y1.out w2).mono ?_
        rintro e w3 ⟨rfl, hF⟩
        clear cbp0 cbp1
        replace bf := (hF.block _ (size_of_block bf)).trans bf
        replace bp := (hF.block _ (size_of_block bp)).trans bp
        replace bq := (hF.block _ (size_of_block bq)).trans bq
        replace hk := hk.later hF
        replace hB := below_then hB hF
        clear hF
        have cbq0 := Joins.cell_of_block bq 0
        have cbq1 := Joins.cell_of_block bq 1
        go_wp2_with fail
        refine (Y2.out w3).mono ?_
        rintro e w4 ⟨rfl, hF⟩
        clear cbq0 cbq1
        replace bf := (hF.block _ (size_of_block bf)).trans bf
        replace bp := (hF.block _ (size_of_block bp)).trans bp
        replace bq := (hF.block _ (size_of_block bq)).trans bq
        replace hk := hk.later hF
        replace hB := below_then hB hF
        clear hF
        go_wp2_with fail
        refine bodyPost_ret (v := .tuple #[.int .i64 0, .int .i64 1]) ?_ rfl ⟨rfl, hB⟩
        simp [results, Tryz.results11, go_sem]
    | true =>
      cases hq : spotB q with
      | false =>
        have eE : spot2E p q = 1 := by unfold spot2E; rw [hp, hq]; rfl
        rw [eE, if_neg (by decide)]
        rw [hp] at y1
        rw [hq] at y2
        clear eE hp hq hsl
        have X1 := Lib.hid x1
        have Y1 := Lib.hid y1
        have Y2 := Lib.hid y2
        clear x1 y1 y2
        unfold fiV at X1
        unfold sV at Y1 Y2
        unfold fiV sV
        go_enter Tryz.func11, Tryz.ntmps11
        obtain ⟨bf, bp, bq, -, HB⟩ := three_new w (.cells #[.int .i64 f.rise, .int .i64 f.fall, .int .i64 f.up, .int .i64 f.down, .slice A f.ls.length cap] 24) (.cells #[.int .i64 p.foot, .int .i64 p.hour] 26) (.cells #[.int .i64 q.foot, .int .i64 q.hour] 26)
        go_wp2_with fail
        generalize (((w.alloc (.cells #[.int .i64 f.rise, .int .i64 f.fall, .int .i64 f.up, .int .i64 f.down, .slice A f.ls.length cap] 24)).alloc (.cells #[.int .i64 p.foot, .int .i64 p.hour] 26)).alloc (.cells #[.int .i64 q.foot, .int .i64 q.hour] 26)) = w1 at bf bp bq HB  ⊢
        have hB := HB
        clear HB
        have hk := HK.out.later hB
        refine (X1.out w1 hk).mono ?_
        rintro e w2 ⟨rfl, hF⟩
        replace bf := (hF.block _ (size_of_block bf)).trans bf
        replace bp := (hF.block _ (size_of_block bp)).trans bp
        replace bq := (hF.block _ (size_of_block bq)).trans bq
        replace hk := hk.later hF
        replace hB := below_then hB hF
        clear hF
        have cbp0 := Joins.cell_of_block bp 0
        have cbp1 := Joins.cell_of_block bp 1
        go_wp2_with fail
        refine (Y1.out w2).mono ?_
        rintro e w3 ⟨rfl, hF⟩
        clear cbp0 cbp1
        replace bf := (hF.block _ (size_of_block bf)).trans bf
        replace bp := (hF.block _ (size_of_block bp)).trans bp
        replace bq := (hF.block _ (size_of_block bq)).trans bq
        replace hk := hk.later hF
        replace hB := below_then hB hF
        clear hF
        have cbq0 := Joins.cell_of_block bq 0
        have cbq1 := Joins.cell_of_block bq 1
        go_wp2_with fail
        refine (Y2.out w3).mono ?_
        rintro e w4 ⟨rfl, hF⟩
        clear cbq0 cbq1
        replace bf := (hF.block _ (size_of_block bf)).trans bf
        replace bp := (hF.block _ (size_of_block bp)).trans bp
        replace bq := (hF.block _ (size_of_block bq)).trans bq
        replace hk := hk.later hF
        replace hB := below_then hB hF
        clear hF
        go_wp2_with fail
        refine bodyPost_ret (v := .tuple #[.int .i64 0, .int .i64 1]) ?_ rfl ⟨rfl, hB⟩
        simp [results, Tryz.results11, go_sem]
      | true =>
        have eE : spot2E p q = 0 := by unfold spot2E; rw [hp, hq]; rfl
        rw [eE, if_pos rfl]
        have x4 := fun W => far_r f A f.ls.length cap p q W hsl hp hq
        rw [hp] at y1
        rw [hq] at y2
        clear eE hp hq hsl
        generalize farI f p q = D at x4 ⊢
        have X1 := Lib.hid x1
        have Y1 := Lib.hid y1
        have Y2 := Lib.hid y2
        clear x1 y1 y2
        unfold fiV at X1
        unfold sV at Y1 Y2
        have X4 := Lib.hid x4
        clear x4
        unfold fiV sV at X4
        unfold fiV sV
        go_enter Tryz.func11, Tryz.ntmps11
        obtain ⟨bf, bp, bq, -, HB⟩ := three_new w (.cells #[.int .i64 f.rise, .int .i64 f.fall, .int .i64 f.up, .int .i64 f.down, .slice A f.ls.length cap] 24) (.cells #[.int .i64 p.foot, .int .i64 p.hour] 26) (.cells #[.int .i64 q.foot, .int .i64 q.hour] 26)
        go_wp2_with fail
        generalize (((w.alloc (.cells #[.int .i64 f.rise, .int .i64 f.fall, .int .i64 f.up, .int .i64 f.down, .slice A f.ls.length cap] 24)).alloc (.cells #[.int .i64 p.foot, .int .i64 p.hour] 26)).alloc (.cells #[.int .i64 q.foot, .int .i64 q.hour] 26)) = w1 at bf bp bq HB  ⊢
        have hB := HB
        clear HB
        have hk := HK.out.later hB
        refine (X1.out w1 hk).mono ?_
        rintro e w2 ⟨rfl, hF⟩
        replace bf := (hF.block _ (size_of_block bf)).trans bf
        replace bp := (hF.block _ (size_of_block bp)).trans bp
        replace bq := (hF.block _ (size_of_block bq)).trans bq
        replace hk := hk.later hF
        replace hB := below_then hB hF
        clear hF
        have cbp0 := Joins.cell_of_block bp 0
        have cbp1 := Joins.cell_of_block bp 1
        go_wp2_with fail
        refine (Y1.out w2).mono ?_
        rintro e w3 ⟨rfl, hF⟩
        clear cbp0 cbp1
        replace bf := (hF.block _ (size_of_block bf)).trans bf
        replace bp := (hF.block _ (size_of_block bp)).trans bp
        replace bq := (hF.block _ (size_of_block bq)).trans bq
        replace hk := hk.later hF
        replace hB := below_then hB hF
        clear hF
        have cbq0 := Joins.cell_of_block bq 0
        have cbq1 := Joins.cell_of_block bq 1
        go_wp2_with fail
        refine (Y2.out w3).mono ?_
        rintro e w4 ⟨rfl, hF⟩
        clear cbq0 cbq1
        replace bf := (hF.block _ (size_of_block bf)).trans bf
        replace bp := (hF.block _ (size_of_block bp)).trans bp
        replace bq := (hF.block _ (size_of_block bq)).trans bq
        replace hk := hk.later hF
        replace hB := below_then hB hF
        clear hF
        have cbf0 := Joins.cell_of_block bf 0
        have cbf1 := Joins.cell_of_block bf 1
        have cbf2 := Joins.cell_of_block bf 2
        have cbf3 := Joins.cell_of_block bf 3
        have cbf4 := Joins.cell_of_block bf 4
        have cbp0 := Joins.cell_of_block bp 0
        have cbp1 := Joins.cell_of_block bp 1
        have cbq0 := Joins.cell_of_block bq 0
        have cbq1 := Joins.cell_of_block bq 1
        go_wp2_with fail
        refine (X4.out w4).mono ?_
        rintro e w5 ⟨rfl, hF⟩
        clear cbf0 cbf1 cbf2 cbf3 cbf4 cbp0 cbp1 cbq0 cbq1
        replace bf := (hF.block _ (size_of_block bf)).trans bf
        replace bp := (hF.block _ (size_of_block bp)).trans bp
        replace bq := (hF.block _ (size_of_block bq)).trans bq
        replace hk := hk.later hF
        replace hB := below_then hB hF
        clear hF
        go_wp2_with fail
        refine bodyPost_ret (v := .tuple #[.int .i64 D, .int .i64 0]) ?_ rfl ⟨rfl, hB⟩
        simp [results, Tryz.results11, go_sem]
  · have d1 : (fireI f != 0) = true := by simpa using hE
    have e2 : farE f p q = fireI f := by unfold farE; rw [if_pos hE]
    have e1 : farR f p q = 0 := by unfold farR; rw [e2, if_neg hE]
    rw [e1, e2]
    clear e1 e2 hE
    generalize fireI f = E at x1 d1 ⊢
    have X1 := Lib.hid x1
    have Y1 := Lib.hid y1
    have Y2 := Lib.hid y2
    clear x1 y1 y2
    unfold fiV at X1
    unfold sV at Y1 Y2
    unfold fiV sV
    go_enter Tryz.func11, Tryz.ntmps11
    obtain ⟨bf, bp, bq, -, HB⟩ := three_new w (.cells #[.int .i64 f.rise, .int .i64 f.fall, .int .i64 f.up, .int .i64 f.down, .slice A f.ls.length cap] 24) (.cells #[.int .i64 p.foot, .int .i64 p.hour] 26) (.cells #[.int .i64 q.foot, .int .i64 q.hour] 26)
    go_wp2_with fail
    generalize (((w.alloc (.cells #[.int .i64 f.rise, .int .i64 f.fall, .int .i64 f.up, .int .i64 f.down, .slice A f.ls.length cap] 24)).alloc (.cells #[.int .i64 p.foot, .int .i64 p.hour] 26)).alloc (.cells #[.int .i64 q.foot, .int .i64 q.hour] 26)) = w1 at bf bp bq HB  ⊢
    have hB := HB
    clear HB
    have hk := HK.out.later hB
    refine (X1.out w1 hk).mono ?_
    rintro e w2 ⟨rfl, hF⟩
    replace bf := (hF.block _ (size_of_block bf)).trans bf
    replace bp := (hF.block _ (size_of_block bp)).trans bp
    replace bq := (hF.block _ (size_of_block bq)).trans bq
    replace hk := hk.later hF
    replace hB := below_then hB hF
    clear hF
    go_wp2_with fail
    refine bodyPost_ret (v := .tuple #[.int .i64 0, .int .i64 E]) ?_ rfl ⟨rfl, hB⟩
    simp [results, Tryz.results11, go_sem]
theorem lks_setRow6 {w : World} {B k : Nat} {v : Value} {l : List Lk} {c0 c1 c2 c3 c5 : Value} {A : Option Addr} {n c : Nat} {t : TypeId} (h : Sl lkC 5 w B v l)
    (o : w.heap[k]? = some (.cells #[c0, c1, c2, c3, .slice A n c, c5] t)) (cs : Array Value) : Sl lkC 5 (w.setRow k cs) B v l := by
  by_cases hl : 0 < l.length
  · refine h.setRow ?_ cs
    obtain ⟨A9, cap, rfl, h1, h2, h3⟩ := h
    obtain ⟨b, off, rfl, hb, hc⟩ := h3 hl
    intro e
    have e2 : b = k := by simpa [Value.ownBlock] using e
    subst e2
    have key : ∀ (i : Nat) (u : Value), (lkC l[0])[i]? = some u → some u = (#[c0, c1, c2, c3, Value.slice A n c, c5] : Array Value)[off + 0 * 5 + i]? := fun i u hu => (hc 0 l[0] (List.getElem?_eq_getElem hl) i u hu).symm.trans (Joins.cell_of_block o (off + 0 * 5 + i))
    rcases off with _ | _ | _ | _ | _ | m
    · have := key 4 _ rfl; simp at this
    · have := key 3 _ rfl; simp at this
    · have := key 2 _ rfl; simp at this
    · have := key 1 _ rfl; simp at this
    · have := key 0 _ rfl; simp at this
    · have := key 1 _ rfl; simp at this
  · obtain ⟨A, cap, rfl, h1, h2, h3⟩ := h
    exact ⟨A, cap, rfl, h1, h2, fun h => absurd h hl⟩
set_option maxRecDepth 100000 in
set_option maxHeartbeats 4000000 in
theorem WithoutR_c (f : Fi) (vl vi : Value) (ids : List Int) (w : World) (hl : Lks w w.heap.size vl f.ls) (hi : Ints w w.heap.size vi ids) :
    Calls Tryz.prog 17 #[fiV f vl, vi] w fun e w' => ∃ u, e = .returned (.agg #[.int .i64 (withoutR f ids).rise, .int .i64 (withoutR f ids).fall, .int .i64 (withoutR f ids).up, .int .i64 (withoutR f ids).down, u, .int .i64 (fireI f)]) ∧ Lks w' w'.heap.size u (withoutR f ids).ls ∧ Below w.heap.size w w' := by
  obtain ⟨A, cap, rfl⟩ := hl.form
  obtain ⟨Ai, capi, rfl⟩ := hi.form
  have HK := Lib.hid hl
  have HI := Lib.hid hi
  clear hl hi
  have x1 := fun W h => CheckR_c f (.slice A f.ls.length cap) W h
  by_cases hE : fireI f = 0
  · have hok := fire_ok hE
    have x2 : ∀ W, Lks W W.heap.size (.slice A f.ls.length cap) f.ls → Ints W W.heap.size (.slice Ai ids.length capi) ids → Calls Tryz.prog 66 #[fiV f (.slice A f.ls.length cap), .slice Ai ids.length capi] W fun e w' => ∃ A2 c2, e = .returned (.agg #[.int .i64 f.rise, .int .i64 f.fall, .int .i64 f.up, .int .i64 f.down, .slice A2 (butL f.ls ids).length c2]) ∧ Lks w' w'.heap.size (.slice A2 (butL f.ls ids).length c2) (butL f.ls ids) ∧ Below W.heap.size W w' := fun W h hi => by
      refine (without_r f (.slice A f.ls.length cap) (.slice Ai ids.length capi) ids W h hi (by have := hok.len; omega)).mono ?_
      rintro e w' ⟨u, rfl, hu, hb⟩
      obtain ⟨A2, c2, rfl⟩ := Sl.form hu
      exact ⟨A2, c2, rfl, hu, hb⟩
    have e1 : withoutR f ids = withF f (butL f.ls ids) := by unfold withoutR; rw [if_pos hE]
    rw [e1, hE]
    rw [hE] at x1
    clear e1 hE hok
    obtain ⟨L9, hL9⟩ : ∃ L, L = butL f.ls ids := ⟨_, rfl⟩
    rw [← hL9] at x2 ⊢
    clear hL9
    have X1 := Lib.hid x1
    clear x1
    unfold fiV at X1
    have X2 := Lib.hid x2
    clear x2
    unfold fiV at X2
    unfold fiV
    go_enter Tryz.func17, Tryz.ntmps17
    obtain ⟨bf, br, -, HB⟩ := two_new' w (.cells #[.int .i64 f.rise, .int .i64 f.fall, .int .i64 f.up, .int .i64 f.down, .slice A f.ls.length cap] 24) (.cells #[.int .i64 0, .int .i64 0, .int .i64 0, .int .i64 0, .slice none 0 0, .int .i64 0] 46)
    go_wp2_with fail
    generalize ((w.alloc (.cells #[.int .i64 f.rise, .int .i64 f.fall, .int .i64 f.up, .int .i64 f.down, .slice A f.ls.length cap] 24)).alloc (.cells #[.int .i64 0, .int .i64 0, .int .i64 0, .int .i64 0, .slice none 0 0, .int .i64 0] 46)) = w1 at bf br HB  ⊢
    have hB := HB
    clear HB
    have hk := HK.out.later hB
    have hi := HI.out.later hB
    refine (X1.out w1 hk).mono ?_
    rintro e w2 ⟨rfl, hF⟩
    replace bf := (hF.block _ (size_of_block bf)).trans bf
    replace br := (hF.block _ (size_of_block br)).trans br
    replace hk := hk.later hF
    replace hi := hi.later hF
    replace hB := below_then hB hF
    clear hF
    have cbf0 := Joins.cell_of_block bf 0
    have cbf1 := Joins.cell_of_block bf 1
    have cbf2 := Joins.cell_of_block bf 2
    have cbf3 := Joins.cell_of_block bf 3
    have cbf4 := Joins.cell_of_block bf 4
    go_wp2_with fail
    refine (X2.out w2 hk hi).mono ?_
    rintro e w3 ⟨A2, c2, rfl, h9, hF⟩
    clear cbf0 cbf1 cbf2 cbf3 cbf4
    replace bf := (hF.block _ (size_of_block bf)).trans bf
    replace br := (hF.block _ (size_of_block br)).trans br
    replace hk := hk.later hF
    replace hi := hi.later hF
    replace hB := below_then hB hF
    clear hF
    have HP := Lib.hid (fun j : Nat => cell_setRow_same w3 (w.heap.size + 1) j _ #[.int .i64 f.rise, .int .i64 f.fall, .int .i64 f.up, .int .i64 f.down, .slice A2 L9.length c2, .int .i64 0] _ _ br)
    have BF := below_setRow hB (show w.heap.size ≤ w.heap.size + 1 by omega) #[.int .i64 f.rise, .int .i64 f.fall, .int .i64 f.up, .int .i64 f.down, .slice A2 L9.length c2, .int .i64 0]
    have HK9 := Lib.hid ((lks_setRow6 h9 br #[.int .i64 f.rise, .int .i64 f.fall, .int .i64 f.up, .int .i64 f.down, .slice A2 L9.length c2, .int .i64 0]).more (Nat.le_of_eq (size_setRow w3 (w.heap.size + 1) #[.int .i64 f.rise, .int .i64 f.fall, .int .i64 f.up, .int .i64 f.down, .slice A2 L9.length c2, .int .i64 0]).symm))
    clear h9
    go_wp2_with (refine wpList_store_rowTo rfl 46 _ _ rfl rfl (w.heap.size + 1) #[.int .i64 f.rise, .int .i64 f.fall, .int .i64 f.up, .int .i64 f.down, .slice A2 L9.length c2, .int .i64 0] rfl rfl 46 _ br (by kernel_rfl) rfl (by kernel_rfl) ?_)
    refine bodyPost_ret (v := .agg #[.int .i64 f.rise, .int .i64 f.fall, .int .i64 f.up, .int .i64 f.down, .slice A2 L9.length c2, .int .i64 0]) ?_ rfl ⟨.slice A2 L9.length c2, rfl, HK9.out, BF⟩
    simp [results, Tryz.results17, go_sem, HP.out]
  · have d1 : (fireI f != 0) = true := by simpa using hE
    have e1 : withoutR f ids = nilF := by unfold withoutR; rw [if_neg hE]
    rw [e1]
    clear e1 hE
    generalize fireI f = E at x1 d1 ⊢
    have X1 := Lib.hid x1
    clear x1
    unfold fiV at X1
    unfold fiV
    go_enter Tryz.func17, Tryz.ntmps17
    obtain ⟨bf, br, -, HB⟩ := two_new' w (.cells #[.int .i64 f.rise, .int .i64 f.fall, .int .i64 f.up, .int .i64 f.down, .slice A f.ls.length cap] 24) (.cells #[.int .i64 0, .int .i64 0, .int .i64 0, .int .i64 0, .slice none 0 0, .int .i64 0] 46)
    go_wp2_with fail
    generalize ((w.alloc (.cells #[.int .i64 f.rise, .int .i64 f.fall, .int .i64 f.up, .int .i64 f.down, .slice A f.ls.length cap] 24)).alloc (.cells #[.int .i64 0, .int .i64 0, .int .i64 0, .int .i64 0, .slice none 0 0, .int .i64 0] 46)) = w1 at bf br HB  ⊢
    have hB := HB
    clear HB
    have hk := HK.out.later hB
    have hi := HI.out.later hB
    refine (X1.out w1 hk).mono ?_
    rintro e w2 ⟨rfl, hF⟩
    replace bf := (hF.block _ (size_of_block bf)).trans bf
    replace br := (hF.block _ (size_of_block br)).trans br
    replace hk := hk.later hF
    replace hi := hi.later hF
    replace hB := below_then hB hF
    clear hF
    have HP := Lib.hid (fun j : Nat => cell_setRow_same w2 (w.heap.size + 1) j _ #[.int .i64 0, .int .i64 0, .int .i64 0, .int .i64 0, .slice none 0 0, .int .i64 E] _ _ br)
    have BF := below_setRow hB (show w.heap.size ≤ w.heap.size + 1 by omega) #[.int .i64 0, .int .i64 0, .int .i64 0, .int .i64 0, .slice none 0 0, .int .i64 E]
    go_wp2_with (refine wpList_store_rowTo rfl 46 _ _ rfl rfl (w.heap.size + 1) #[.int .i64 0, .int .i64 0, .int .i64 0, .int .i64 0, .slice none 0 0, .int .i64 E] rfl rfl 46 _ br (by kernel_rfl) rfl (by kernel_rfl) ?_)
    refine bodyPost_ret (v := .agg #[.int .i64 0, .int .i64 0, .int .i64 0, .int .i64 0, .slice none 0 0, .int .i64 E]) ?_ rfl ⟨.slice none 0 0, rfl, Sl.nil_, BF⟩
    simp [results, Tryz.results17, go_sem, HP.out]
end Go.Proofs.YtjpoacffnpgjdaaGreat
