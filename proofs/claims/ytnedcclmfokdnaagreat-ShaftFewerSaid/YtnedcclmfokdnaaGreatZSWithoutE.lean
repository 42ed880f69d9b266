import Derived.Test.YtnedcclmfokdnaaGreatJ25
import Derived.Test.YtnedcclmfokdnaaGreatJ15
namespace Go.Proofs.YtnedcclmfokdnaaGreat
open Go Go.RowKit Go.Shelf
attribute [local go_sem] Oper.semAt_some Rel RelAt RelUpon
theorem setRow_kiln {W : World} {k : Kl} {vl vd vw : Value} {g : Nat} (h : Kiln W (.agg #[.int .i64 k.room, .int .i64 k.per, vl, vd, vw]) k) (hg : vl.ownBlock ≠ some g ∧ vd.ownBlock ≠ some g ∧ vw.ownBlock ≠ some g) (cs : Array Value) : Kiln (W.setRow g cs) (.agg #[.int .i64 k.room, .int .i64 k.per, vl, vd, vw]) k := by
  obtain ⟨a, b, c, e, h1, h2, h3⟩ := h
  obtain ⟨rfl, rfl, rfl⟩ : vl = a ∧ vd = b ∧ vw = c := by simpa using e
  have hs : W.heap.size ≤ (W.setRow g cs).heap.size := by simp
  exact ⟨_, _, _, rfl, (h1.setRow hg.1 cs).more hs, (h2.setRow hg.2.1 cs).more hs, (h3.setRow hg.2.2 cs).more hs⟩
set_option maxRecDepth 100000 in
set_option maxHeartbeats 8000000 in
theorem Without_c (k : Kl) (v u : Value) (ids : List Int) (w : World) (hv : Kiln w v k) (hu : Ints w w.heap.size u ids) :
    Calls Tryz.prog 58 #[v, u] w fun e w' => ∃ x, e = .returned (.tuple #[x, .int .i64 (checkI k)]) ∧ ((checkI k = 0 → Kiln w' x (lessK k ids)) ∧ (checkI k ≠ 0 → x = .agg #[.int .i64 0, .int .i64 0, .slice none 0 0, .slice none 0 0, .slice none 0 0])) ∧ Below w.heap.size w w' := by
  obtain ⟨A1, c1, A2, c2, A3, c3, rfl⟩ := kilnForm hv
  obtain ⟨Ai, ci, rfl⟩ := Sl.form1 hu
  obtain ⟨q0, q1, -, qb⟩ := two_new' w (.cells #[.int .i64 k.room, .int .i64 k.per, .slice A1 k.ls.length c1, .slice A2 k.ds.length c2, .slice A3 k.ws.length c3] 26) (.cells #[.int .i64 0, .int .i64 0, .slice none 0 0, .slice none 0 0, .slice none 0 0] 26)
  have HKB := Lib.hid hv.toB
  have HU := Lib.hid hu
  have hk := hv.later qb
  clear hv hu
  go_enter Tryz.func58, Tryz.ntmps58
  have y0 := Joins.cell_of_block q0 0
  have y1 := Joins.cell_of_block q0 1
  have y2 := Joins.cell_of_block q0 2
  have y3 := Joins.cell_of_block q0 3
  have y4 := Joins.cell_of_block q0 4
  go_wp2_with fail
  generalize (w.alloc _).alloc _ = W1 at q0 q1 qb hk ⊢
  refine (check_c k _ W1 hk).mono ?_
  rintro e W2 ⟨rfl, hF⟩
  replace q0 := (hF.block _ (size_of_block q0)).trans q0
  replace q1 := (hF.block _ (size_of_block q1)).trans q1
  replace qb := below_then qb hF
  clear hF y0 y1 y2 y3 y4 hk
  by_cases h0 : checkI k = 0
  · have d0 : (checkI k != 0) = false := by rw [h0]; rfl
    have HC := Lib.hid h0
    have HR := Lib.hid (right_of_check h0)
    clear h0
    have y0 := Joins.cell_of_block q0 0
    have y1 := Joins.cell_of_block q0 1
    have y2 := Joins.cell_of_block q0 2
    have y3 := Joins.cell_of_block q0 3
    have y4 := Joins.cell_of_block q0 4
    go_wp2_with fail
    have zq1 := size_of_block q1
    refine (without_d k (.agg #[.int .i64 k.room, .int .i64 k.per, .slice A1 k.ls.length c1, .slice A2 k.ds.length c2, .slice A3 k.ws.length c3]) (.slice Ai ids.length ci) ids W2 ((HKB.out.below qb).kiln qb.size) (HU.out.later qb) HR.out).mono ?_
    rintro e W3 ⟨vl, vd, vw, rfl, ⟨hx, hf⟩, hF⟩
    replace q1 := (hF.block _ zq1).trans q1
    replace qb := below_then qb hF
    have KX := Lib.hid (setRow_kiln (k := lessK k ids) hx (hf _ zq1) #[.int .i64 k.room, .int .i64 k.per, vl, vd, vw])
    obtain ⟨B1, b1, B2, b2, B3, b3, he⟩ := kilnForm hx
    obtain ⟨rfl, rfl, rfl⟩ : vl = .slice B1 (lessK k ids).ls.length b1 ∧ vd = .slice B2 (lessK k ids).ds.length b2 ∧ vw = .slice B3 (lessK k ids).ws.length b3 := by
      have e2 := he
      simp only [Value.agg.injEq, Array.mk.injEq, List.cons.injEq, and_true] at e2
      exact ⟨e2.2.2.1, e2.2.2.2.1, e2.2.2.2.2⟩
    have HP := Lib.hid (fun j : Nat => cell_setRow_same W3 (w.heap.size + 1) j _ #[.int .i64 k.room, .int .i64 k.per, .slice B1 (lessK k ids).ls.length b1, .slice B2 (lessK k ids).ds.length b2, .slice B3 (lessK k ids).ws.length b3] _ _ q1)
    have HBF := Lib.hid (below_setRow qb (show w.heap.size ≤ w.heap.size + 1 by omega) #[.int .i64 k.room, .int .i64 k.per, .slice B1 (lessK k ids).ls.length b1, .slice B2 (lessK k ids).ds.length b2, .slice B3 (lessK k ids).ws.length b3])
    clear hx hf hF qb q0 y0 y1 y2 y3 y4 HKB HU zq1 he
    rw [HC.out]
    go_wp2_with (refine wpList_store_rowTo rfl 26 _ _ rfl rfl (w.heap.size + 1) #[.int .i64 k.room, .int .i64 k.per, .slice B1 (lessK k ids).ls.length b1, .slice B2 (lessK k ids).ds.length b2, .slice B3 (lessK k ids).ws.length b3] rfl rfl 26 _ q1 (by kernel_rfl) rfl (by kernel_rfl) ?_)
    refine bodyPost_ret (v := .tuple #[.agg #[.int .i64 k.room, .int .i64 k.per, .slice B1 (lessK k ids).ls.length b1, .slice B2 (lessK k ids).ds.length b2, .slice B3 (lessK k ids).ws.length b3], .int .i64 0]) ?_ rfl ⟨_, by rw [HC.out]; rfl, ⟨fun _ => KX.out, fun h => absurd HC.out h⟩, HBF.out⟩
    simp [results, Tryz.results58, go_sem, HP.out]
  · have d0 : (checkI k != 0) = true := by simpa using h0
    have HP := Lib.hid (fun j : Nat => cell_setRow_same W2 (w.heap.size + 1) j _ #[.int .i64 0, .int .i64 0, .slice none 0 0, .slice none 0 0, .slice none 0 0] _ _ q1)
    have HBF := Lib.hid (below_setRow qb (show w.heap.size ≤ w.heap.size + 1 by omega) #[.int .i64 0, .int .i64 0, .slice none 0 0, .slice none 0 0, .slice none 0 0])
    have HN := Lib.hid h0
    clear h0
    go_wp2_with (refine wpList_store_rowTo rfl 26 _ _ rfl rfl (w.heap.size + 1) #[.int .i64 0, .int .i64 0, .slice none 0 0, .slice none 0 0, .slice none 0 0] rfl rfl 26 _ q1 (by kernel_rfl) rfl (by kernel_rfl) ?_)
    refine bodyPost_ret (v := .tuple #[.agg #[.int .i64 0, .int .i64 0, .slice none 0 0, .slice none 0 0, .slice none 0 0], .int .i64 (checkI k)]) ?_ rfl ⟨_, rfl, ⟨fun h => absurd h HN.out, fun _ => rfl⟩, HBF.out⟩
    simp [results, Tryz.results58, go_sem, HP.out]
end Go.Proofs.YtnedcclmfokdnaaGreat
