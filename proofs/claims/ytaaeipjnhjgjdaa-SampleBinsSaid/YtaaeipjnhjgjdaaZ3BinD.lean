/- Bins of package sample: a sample is drawn. -/
import Derived.Test.YtaaeipjnhjgjdaaZ3BinC
import Derived.Test.YtaaeipjnhjgjdaaZPlanM
import Derived.Test.YtaaeipjnhjgjdaaJ28
namespace Go.Proofs.Ytaaeipjnhjgjdaa
open Go Go.RowKit Go.Shelf

attribute [local go_sem] Rel RelAt RelUpon
set_option maxHeartbeats 1600000 in
set_option maxRecDepth 100000 in
theorem Draw_c (b : Bt) (D : List K3) (s : K3) (g B0 : Nat) (v : Value) (w : World) (hg : BinIs w g b v) (ho : w.ownsRow B0 23 3 v D.length (D.flatMap k3C)) (ok : okBin b D) (hpos : ∀ x ∈ D, 0 ≤ x.a ∧ 0 ≤ x.b ∧ 0 ≤ x.c) (hlen : D.length ≤ 40) (hB0 : B0 ≤ w.heap.size) :
    Calls Try.prog 45 #[.pointer (some ⟨g, 0, none⟩), k3V s] w fun e w' => (40 ≤ D.length ∧ e = .returned (.int .i64 2) ∧ Below w.heap.size w w') ∨
      (D.length < 40 ∧ moreE (foldB b D) s ≠ 0 ∧ e = .returned (.int .i64 (moreE (foldB b D) s)) ∧ Below w.heap.size w w') ∨
      (D.length < 40 ∧ moreE (foldB b D) s = 0 ∧ e = .returned (.int .i64 0) ∧ ∃ v', BinIs w' g b v' ∧ w'.ownsRow B0 23 3 v' (D.length + 1) ((D ++ [s]).flatMap k3C) ∧ FrameB w w' g v.ownBlock ∧ (v'.ownBlock = v.ownBlock ∨ ∃ k, v'.ownBlock = some k ∧ w.heap.size ≤ k)) := by
  have zg := size_of_block hg
  obtain ⟨A, cap, rfl⟩ := own_form ho
  have hD : K3s w w.heap.size (.slice A D.length cap) D := Sl.of_own k3C_len ho (by omega)
  have ca := Joins.cell_of_block hg 10
  unfold k3V
  by_cases h40 : 40 ≤ D.length
  · have d1 : decide ((D.length : Int) ≥ 40) = true := decide_eq_true (by omega)
    go_enter Try.func45, Try.ntmps45
    go_wp2_with fail
    go_ret
    exact .inl ⟨h40, rfl, below_alloc _ _⟩
  · have d1 : decide ((D.length : Int) ≥ 40) = false := decide_eq_false (by omega)
    go_enter Try.func45, Try.ntmps45
    go_wp2_with fail
    have qs := heap_alloc_new w (.cells #[.int .i64 s.a, .int .i64 s.b, .int .i64 s.c] 23)
    have qb := below_alloc w (.cells #[.int .i64 s.a, .int .i64 s.b, .int .i64 s.c] 23)
    generalize w.alloc _ = W1 at qs qb ⊢
    refine wp_region_planP 7 [.f [0, 1, 2, 3]] [4, 5, 6] [8, 9] (by kernel_rfl) (by kernel_rfl) (by intro c a d v w h; cases d <;> exact h) fun W2 hb2 => ?_
    have B2 := below_then qb hb2
    replace qs := (hb2.block _ (size_of_block qs)).trans qs
    clear qb hb2
    have CB := fun (W : World) (h : Below W2.heap.size W2 W) => Batch_t b D g _ W (((below_then B2 h).block g zg).trans hg) (hD.later (below_then B2 h)) ok hpos
    unfold btV at CB
    have CM := fun (W : World) => More_c (foldB b D) s W
    unfold btV k3V at CM
    have zs := size_of_block qs
    have g0 := Joins.cell_of_block qs 0
    have g1 := Joins.cell_of_block qs 1
    have g2 := Joins.cell_of_block qs 2
    have hcg : ∀ (g : Gr W2) b o, b < W2.heap.size → g.val.cell? ⟨b, o, none⟩ = W2.cell? ⟨b, o, none⟩ := fun g b o h => (bcell g.b).1 b o h
    simp only [pick, List.filterMap_cons, List.filterMap_nil, List.getElem?_toArray, List.getElem?_cons_succ, List.getElem?_cons_zero, wpPlanAG, wpPure]
    refine wpRel_step (fun K hK => ?_); go_simp; refine hK _ ?_; clear hK K
    refine wpRel_step (fun K hK => ?_); go_simp
    apply Exists.intro; refine ⟨fun g => CB g.val g.b, hK _ ?_⟩; clear hK K
    refine wpRel_step (fun K hK => ?_); go_simp; refine hK _ ?_; clear hK K
    refine wpRel_step (fun K hK => ?_); go_simp
    apply Exists.intro; refine ⟨fun g => CM g.val, hK _ ?_⟩; clear hK K
    refine wpRel_nil fun W3 hb3 => ?_
    refine ⟨trivial, _, fun _ => rfl, ?_⟩
    go_simp
    obtain ⟨M, hM⟩ : ∃ M, M = moreR (foldB b D) s := ⟨_, rfl⟩
    rw [← hM]
    have HM := Lib.hid hM
    clear hM g0 g1 g2 hcg
    have nB := heap_alloc_new W3 (.cells #[.int .i64 0, .int .i64 0, .int .i64 0, .int .i64 0, .int .i64 0, .int .i64 0, .int .i64 0, .int .i64 0, .int .i64 0, .int .i64 0] 34)
    have aB := below_alloc W3 (.cells #[.int .i64 0, .int .i64 0, .int .i64 0, .int .i64 0, .int .i64 0, .int .i64 0, .int .i64 0, .int .i64 0, .int .i64 0, .int .i64 0] 34)
    first | refine ⟨aB, fun W4 hu => ?_⟩ | refine fun W4 hu => ?_
    replace nB := (hu.block _ (size_of_block nB)).trans nB
    have B3 := below_then B2 hb3
    have B4 := below_then B3 (below_then aB hu)
    have qs3 := (hb3.block _ (size_of_block qs)).trans qs
    have zq3 := size_of_block qs3
    have qs4 := ((below_then aB hu).block _ zq3).trans qs3
    have hs3 := B3.size
    clear hu aB
    have hs4 := size_of_block nB
    have B5 := below_setRow B4 hs3 #[.int .i64 M.1.n, .int .i64 M.1.s.a, .int .i64 M.1.s.b, .int .i64 M.1.s.c, .int .i64 M.1.k0.lo, .int .i64 M.1.k0.hi, .int .i64 M.1.k1.lo, .int .i64 M.1.k1.hi, .int .i64 M.1.k2.lo, .int .i64 M.1.k2.hi]
    have hg5 := (B5.block g zg).trans hg
    have hD5 := hD.later B5
    have hs5 : (W4.setRow W3.heap.size #[.int .i64 M.1.n, .int .i64 M.1.s.a, .int .i64 M.1.s.b, .int .i64 M.1.s.c, .int .i64 M.1.k0.lo, .int .i64 M.1.k0.hi, .int .i64 M.1.k1.lo, .int .i64 M.1.k1.hi, .int .i64 M.1.k2.lo, .int .i64 M.1.k2.hi]).heap.size = W4.heap.size := size_setRow _ _ _
    have zsW : w.heap.size < W4.heap.size := by omega
    show wpList _ _ _ _ _ _
    refine wpList_store_rowTo rfl 34 _ _ rfl rfl W3.heap.size #[.int .i64 M.1.n, .int .i64 M.1.s.a, .int .i64 M.1.s.b, .int .i64 M.1.s.c, .int .i64 M.1.k0.lo, .int .i64 M.1.k0.hi, .int .i64 M.1.k1.lo, .int .i64 M.1.k1.hi, .int .i64 M.1.k2.lo, .int .i64 M.1.k2.hi] rfl rfl 34 _ nB (by kernel_rfl) rfl (by kernel_rfl) ?_
    have hm2 : M.2 = moreE (foldB b D) s := by rw [HM.out, more_snd]
    have own4 : W4.ownsRow B0 23 3 (.slice A D.length cap) D.length (D.flatMap k3C) := own_later ho B4
    have FR : FrameB w (W4.setRow W3.heap.size #[.int .i64 M.1.n, .int .i64 M.1.s.a, .int .i64 M.1.s.b, .int .i64 M.1.s.c, .int .i64 M.1.k0.lo, .int .i64 M.1.k0.hi, .int .i64 M.1.k1.lo, .int .i64 M.1.k1.hi, .int .i64 M.1.k2.lo, .int .i64 M.1.k2.hi]) g none := ⟨B5.os, B5.tape, B5.output, B5.size, fun k hk _ _ => B5.block k hk⟩
    have own5 : (W4.setRow W3.heap.size #[.int .i64 M.1.n, .int .i64 M.1.s.a, .int .i64 M.1.s.b, .int .i64 M.1.s.c, .int .i64 M.1.k0.lo, .int .i64 M.1.k0.hi, .int .i64 M.1.k1.lo, .int .i64 M.1.k1.hi, .int .i64 M.1.k2.lo, .int .i64 M.1.k2.hi]).ownsRow B0 23 3 (.slice A D.length cap) D.length (D.flatMap k3C) := own_later ho B5
    have zgW : g < (W4.setRow W3.heap.size #[.int .i64 M.1.n, .int .i64 M.1.s.a, .int .i64 M.1.s.b, .int .i64 M.1.s.c, .int .i64 M.1.k0.lo, .int .i64 M.1.k0.hi, .int .i64 M.1.k1.lo, .int .i64 M.1.k1.hi, .int .i64 M.1.k2.lo, .int .i64 M.1.k2.hi]).heap.size := by omega
    have qs5 : (W4.setRow W3.heap.size #[.int .i64 M.1.n, .int .i64 M.1.s.a, .int .i64 M.1.s.b, .int .i64 M.1.s.c, .int .i64 M.1.k0.lo, .int .i64 M.1.k0.hi, .int .i64 M.1.k1.lo, .int .i64 M.1.k1.hi, .int .i64 M.1.k2.lo, .int .i64 M.1.k2.hi]).heap[w.heap.size]? = some (.cells #[.int .i64 s.a, .int .i64 s.b, .int .i64 s.c] 23) := (setRow_other W4 W3.heap.size w.heap.size _ (by omega)).trans qs4
    clear qs3 zq3 qs4 qs
    generalize W4.setRow W3.heap.size #[.int .i64 M.1.n, .int .i64 M.1.s.a, .int .i64 M.1.s.b, .int .i64 M.1.s.c, .int .i64 M.1.k0.lo, .int .i64 M.1.k0.hi, .int .i64 M.1.k1.lo, .int .i64 M.1.k1.hi, .int .i64 M.1.k2.lo, .int .i64 M.1.k2.hi] = W5 at *
    clear CB CM hs5 hs4 hs3 B3 B4 nB own4 zsW ca hD hD5
    by_cases hm : M.2 = 0
    · have d2 : (M.2 != 0) = false := by simpa using hm
      have HM2 := Lib.hid hm2
      clear hm2
      have ca := Joins.cell_of_block hg5 10
      have fa := Joins.unfrozen_of_block hg5 10
      have g0 := Joins.cell_of_block qs5 0
      have g1 := Joins.cell_of_block qs5 1
      have g2 := Joins.cell_of_block qs5 2
      have zs5 := size_of_block qs5
      have hneg := own_ne_block own5 hg5 (by decide)
      go_wp2_with fail
      refine wp_region_planM 6 [0] [.f [1, 2, 3, 4, 5]] [] [7, 8, 9, 10] (by kernel_rfl) (by kernel_rfl) (by intro c a d v w h; cases d <;> exact h) ?_
      simp only [pick, List.filterMap_cons, List.filterMap_nil, List.getElem?_toArray, List.getElem?_cons_succ, List.getElem?_cons_zero, wpPure]
      refine ⟨trivial, _, fun _ => rfl, ?_⟩
      intro W6 hb6
      have hg6 := (hb6.block g zgW).trans hg5
      have own6 := own_later own5 hb6
      have FR6 : FrameB w W6 g none := ⟨hb6.os.trans FR.os, hb6.tape.trans FR.tape, hb6.output.trans FR.output, Nat.le_trans FR.size hb6.size, fun k hk h1 h2 => (hb6.block k (Nat.lt_of_lt_of_le hk FR.size)).trans (FR.block k hk h1 h2)⟩
      have qs6 := (hb6.block _ zs5).trans qs5
      have zg6 := size_of_block hg6
      have zs6 := size_of_block qs6
      clear ca fa g0 g1 g2 zs5 qs5 hb6
      have ca := Joins.cell_of_block hg6 10
      have g0 := Joins.cell_of_block qs6 0
      have g1 := Joins.cell_of_block qs6 1
      have g2 := Joins.cell_of_block qs6 2
      have hcg : ∀ (g : Gr W6) b o, b < W6.heap.size → g.val.cell? ⟨b, o, none⟩ = W6.cell? ⟨b, o, none⟩ := fun g b o h => (bcell g.b).1 b o h
      simp only [pick, List.filterMap_cons, List.filterMap_nil, List.getElem?_toArray, List.getElem?_cons_succ, List.getElem?_cons_zero, wpPlanAG]
      repeat (refine wpRel_step (fun K hK => ?_); go_simp; refine hK _ ?_; clear hK K)
      refine wpRel_nil fun W7 hb7 => ?_
      go_simp
      refine ⟨below_alloc _ _, fun W8 hu => ?_⟩
      have nS := (hu.block _ (by simp)).trans (heap_alloc_new W7 (.cells #[.int .i64 s.a, .int .i64 s.b, .int .i64 s.c] 23))
      have b68 := below_then hb7 (below_then (below_alloc _ _) hu)
      have hg8 := (b68.block g zg6).trans hg6
      have own8 := own_later own6 b68
      have FR8 : FrameB w W8 g none := ⟨b68.os.trans FR6.os, b68.tape.trans FR6.tape, b68.output.trans FR6.output, Nat.le_trans FR6.size b68.size, fun k hk h1 h2 => (b68.block k (Nat.lt_of_lt_of_le hk FR6.size)).trans (FR6.block k hk h1 h2)⟩
      have zg8 := size_of_block hg8
      have hneg := own_ne_block own8 hg8 (by decide)
      clear hu hb7 b68 hcg ca g0 g1 g2 qs6 zs6 zg6 hg6 own6 FR6
      obtain ⟨i0, hi, hz0, hz1, hz2⟩ := info_parts Try.infoK3
      show wpList _ _ _ _ _ _
      refine wpList_append_own_at _ rfl _ _ 35 rfl B0 23 i0 (.agg #[.int .i64 0, .int .i64 0, .int .i64 0]) 3 24 Try.underlying35 hi hz0 hz1 hz2 rfl (by decide) _ _ _ rfl own8 ⟨W7.heap.size, 0, none⟩ 1 1 [.int .i64 s.a, .int .i64 s.b, .int .i64 s.c] rfl rfl ?c1 ?c2 ?c3 ?c4 ?c5 ?_
      case c1 => exact fun j u h => World.news_of_block nS j u (by simpa using h)
      case c2 => intro u hu; simp at hu; rcases hu with rfl | rfl | rfl <;> rfl
      case c3 => unfold maxLen; omega
      case c4 => omega
      case c5 => exact Nat.le_trans hB0 FR8.size
      intro v' W9 hown9 hgrow _ hat
      have hg9 := (hgrow.block g zg8 (fun e => hneg e.symm)).trans hg8
      have ca := Joins.cell_of_block hg9 10
      have fa := Joins.unfrozen_of_block hg9 10
      have hvf := own_form hown9
      have hne9 := own_ne_block hown9 hg9 (by decide)
      have FR9 : FrameB w (W9.setCell ⟨g, 10, none⟩ v') g (Value.slice A D.length cap).ownBlock := ⟨hgrow.os.trans FR8.os, hgrow.tape.trans FR8.tape, hgrow.output.trans FR8.output, by simpa using Nat.le_trans FR8.size hgrow.size,
        fun k hk h1 h2 => (Below.heap_setCell W9 ⟨g, 10, none⟩ v' k h1).trans ((hgrow.block k (Nat.lt_of_lt_of_le hk FR8.size) (fun e => h2 e.symm)).trans (FR8.block k hk h1 (by simp)))⟩
      have hat2 : v'.ownBlock = (Value.slice A D.length cap).ownBlock ∨ ∃ k, v'.ownBlock = some k ∧ w.heap.size ≤ k := hat.imp id fun h => ⟨_, h, FR8.size⟩
      have BI : BinIs (W9.setCell ⟨g, 10, none⟩ v') g b v' := Joins.block_setCell (i := 10) hg9 v'
      have OW := own_setCell hown9 10 v' hne9
      have Hres := Lib.hid (And.intro BI (And.intro OW (And.intro FR9 hat2)))
      clear BI OW FR9 hat2 hat hne9 hown9 hgrow FR8 own8 nS hg8 zg8 hneg hi hz0 hz1 hz2
      obtain ⟨vA, vcap, rfl⟩ := hvf
      have eD : (D ++ [s]).flatMap k3C = D.flatMap k3C ++ [.int .i64 s.a, .int .i64 s.b, .int .i64 s.c] := by simp [k3C]
      go_wp2_with fail
      refine bodyPost_ret (v := .int .i64 0) ?_ rfl (.inr (.inr ⟨by omega, by rw [← HM2.out]; exact hm, rfl, _, Hres.out.1, by rw [eD]; exact Hres.out.2.1, Hres.out.2.2.1, Hres.out.2.2.2⟩))
      simp [results, Try.results45, go_sem]
    · have d2 : (M.2 != 0) = true := by simpa using hm
      have HM2 := Lib.hid hm2
      clear hm2
      go_wp2_with fail
      go_ret
      exact .inr (.inl ⟨by omega, by rw [← HM2.out]; exact hm, by rw [← HM2.out]; rfl, B5⟩)
end Go.Proofs.Ytaaeipjnhjgjdaa
