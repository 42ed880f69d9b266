/- Texts joined: 3ProgS 3ProgT 3ProgU 3ProgV 3ProgW. -/
import Derived.Test.YtaaeipjnhjgjdaaJ14
import Derived.Test.YtaaeipjnhjgjdaaJ25
import Derived.Laws.EntriesVeiled
/- What is believed of a sort, by package sample. -/
namespace Go.Proofs.Ytaaeipjnhjgjdaa
open Go Go.RowKit Go.Shelf
attribute [local go_sem] Oper.semAt_some
attribute [local go_sem] Rel RelAt RelUpon RelG RelS

def moreE_ (l : List Int) : Int := (l.find? fun e => e != 0).getD 0
def believeE (b : Bt) (s : Int) (l : List Int) : Int := if kindI b s ≠ 0 then kindI b s else moreE_ l
/-- The weight of a number by the wholes of a list; 0 where there are none. -/
def wtF (l : List K3) (sn : K3) (s x : Int) : Int := sumL (fun w => if w.get s = x then waysI w sn else 0) l
def BelPost (b : Bt) (s : Int) (l : List Int) (e : Ending) (w' : World) : Prop :=
  if believeE b s l = 0 then ∃ r, e = .returned (.tuple #[belV b.n r (totalI (weightsL b s)), .int .i64 0]) ∧ FMap w' r (wtF (wholesL b) b.s s)
  else e = .returned (.tuple #[.agg #[.int .i64 0, .int .i64 0, .map none, .int .i64 0], .int .i64 (believeE b s l)])
theorem wtF_eq (b : Bt) (s x : Int) (h : 0 ≤ x) : wtF (wholesL b) b.s s x = wgt b s x := by
  unfold wtF wgt wAt
  refine sumL_congr fun w _ => ?_
  rw [show ((x.toNat : Nat) : Int) = x by omega]
theorem wtF_next (l : List K3) (sn : K3) (s : Int) (w : K3) : (fun y => if y = w.get s then wtF l sn s (w.get s) + waysI w sn else wtF l sn s y) = wtF (l ++ [w]) sn s := by
  funext y
  unfold wtF
  rw [sumL_append, sumL_cons, sumL_nil]
  by_cases e : y = w.get s
  · subst e; simp
  · rw [if_neg e, if_neg (fun h => e h.symm)]; omega
theorem wtF_le {b : Bt} (hr : rightB b = true) {pre : List K3} (hp : pre <+: wholesL b) (s x : Int) : 0 ≤ wtF pre b.s s x ∧ wtF pre b.s s x ≤ 495918532948104 := by
  have hn := right_n hr
  have h1 : wtF pre b.s s x ≤ sumL (fun w => waysI w b.s) pre := sumL_le fun w _ => by split; exact Int.le_refl _; exact waysI_nonneg _ _
  have h2 := (sumL_prefix hp fun w _ => waysI_nonneg w b.s).2
  have h3 := ways_bound b (by omega) hn.2.1 hn.2.2.2.1 hn.2.2.2.2.1 hn.2.2.2.2.2.1
  exact ⟨sumL_nonneg fun w _ => by split; exact waysI_nonneg _ _; exact Int.le_refl _, by omega⟩
theorem wtF_two {b : Bt} (hr : rightB b = true) {pre : List K3} {x : K3} (hp : pre ++ [x] <+: wholesL b) (s : Int) : 0 ≤ wtF pre b.s s (x.get s) + waysI x b.s ∧ wtF pre b.s s (x.get s) + waysI x b.s ≤ 495918532948104 := by
  have h := wtF_le hr hp s (x.get s)
  have e := congrFun (wtF_next pre b.s s x) (x.get s)
  simp only [if_pos] at e
  rw [← e] at h
  exact h
theorem wholes_whole {b : Bt} (hr : rightB b = true) {x : K3} (hx : x ∈ wholesL b) : wholeP x := by
  have hn := right_n hr
  have := (mem_wholes (by omega)).1 hx
  exact ⟨this.1.1, this.1.2.1, this.1.2.2.1, by omega⟩
theorem all_sum {b : Bt} (hr : rightB b = true) (s : Int) : sumL (wtF (wholesL b) b.s s) (numsL 0 b.n) = totalI (weightsL b s) := by
  rw [← total_sum hr s]
  exact sumL_congr fun x hx => wtF_eq b s x (mem_nums.1 hx).1
theorem wt_prefix {b : Bt} (h : checkB b = 0) (s : Int) {pre : List Int} {lo hi : Int} (hlo : 0 ≤ lo) (hhi : hi ≤ b.n) (hp : pre <+: numsL lo hi) : 0 ≤ sumL (wtF (wholesL b) b.s s) pre ∧ sumL (wtF (wholesL b) b.s s) pre ≤ 495918532948104 := by
  have hr := (check_ok h).1
  have h1 := sumL_prefix (f := wtF (wholesL b) b.s s) hp fun x _ => (wtF_le hr (List.prefix_refl _) s x).1
  have e : sumL (wtF (wholesL b) b.s s) (numsL lo hi) = spanI (weightsL b s) ⟨lo, hi⟩ := by
    rw [← span_sum hr s ⟨lo, hi⟩]
    simp only
    rw [show max lo 0 = lo by omega, show min hi b.n = hi by omega]
    exact sumL_congr fun x hx => wtF_eq b s x (by have := (mem_nums.1 hx).1; omega)
  have h2 := total_pos h s
  have h3 := (spanP_le (l := weightsL b s) (s := ⟨lo, hi⟩) (weights_nonneg b s) (Nat.le_refl _)).2
  rw [← spanI_eq, ← totalI_eq] at h3
  omega
theorem own_fmap {β : Type} {B m : Nat} (hm : m < B) (f : β → Int → Int) : OwnFrom B (fun s W => FMap W m (f s)) := fun _ _ _ _ hs hg hr =>
  hs.same (hg.block m hs.lt (fun e => by have := (hr m e.symm).1; omega))
theorem wpListIn_mapUpdate_f {F : Fence} {nF : Nat} {w : World} {ops : Array Oper} {rest : List Oper} {o : Oper} {a : Act} {Q : Exit → Act → World → Prop} {r : Nat} {f : Int → Int} (m x v : Operand) (n1 v1 : Int)
    (hop : o.op = Op.mapUpdate 126 m x v) (hg : o.guard = none) (hm : a.eval m = .map (some r)) (hx : a.eval x = .int .i64 n1) (hv : a.eval v = .int .i64 v1) (hf : FMap w r f)
    (hK : ∀ w', FMap w' r (fun y => if y = n1 then v1 else f y) → w.grownBy w' (some r) → wpListIn F nF Try.prog ops Q rest (a.put o.dst undef) w') : wpListIn F nF Try.prog ops Q (o :: rest) a w := by
  refine wpListIn_plain hg fun K hK' => ?_
  obtain ⟨w', hrun, r1, r2⟩ := run_mapUpdate_f Try.underlying126 Try.underlying3 hf n1 v1
  unfold Oper.wpIn
  refine ⟨by simp [Oper.about, hop], ?_⟩
  rw [Oper.semAt_plain F _ _ (by rw [hop]; intro c hc'; cases hc')]
  simp [execOp, hop, hm, hx, hv, hrun, Result.andThen]
  exact hK' _ _ (hK w' r1 r2)
theorem put4 {w : World} {b : Nat} {t : TypeId} {p0 p1 p2 p3 : Value} (x0 x1 x2 x3 : Value) (h : w.heap[b]? = some (.cells #[p0, p1, p2, p3] t)) :
    ((((w.setCell ⟨b, 0, none⟩ x0).setCell ⟨b, 1, none⟩ x1).setCell ⟨b, 2, none⟩ x2).setCell ⟨b, 3, none⟩ x3).heap[b]? = some (.cells #[x0, x1, x2, x3] t) :=
  Joins.block_setCell (i := 3) (Joins.block_setCell (i := 2) (Joins.block_setCell (i := 1) (Joins.block_setCell (i := 0) h x0) x1) x2) x3
set_option maxRecDepth 100000 in
set_option maxHeartbeats 8000000 in
theorem believed_c (b : Bt) (s : Int) (l : List Int) (v : Value) (w : World) (hv : Ints w w.heap.size v l) :
    Calls Try.prog 91 #[btV b, .int .i64 s, v] w fun e w' => BelPost b s l e w' ∧ Below w.heap.size w w' := by
  obtain ⟨q0, q1, q2, qs, qb⟩ := three_new w (.cells (btC b) 34) (.cells #[.int .i64 s] 3) (.cells #[.int .i64 0, .int .i64 0, .map none, .int .i64 0] 128)
  unfold btC at q0 q1 q2 qs qb
  obtain ⟨A, cap, rfl, hcap, hn, hat⟩ := hv.open_
  have H := Lib.hid hat
  clear hat hv
  unfold btV
  by_cases h : kindI b s = 0
  · have hd : (kindI b s != 0) = false := by simpa using h
    obtain ⟨k1, k2, k3⟩ := kind_ok h
    have HE := Lib.hid (show believeE b s l = moreE_ l by unfold believeE; rw [if_neg (by rw [h]; simp)])
    have K1 := Lib.hid k1
    clear h k1
    (refine (callsIn_wide (n := 9)).1 (callsIn_of_wp_marks Try.func91 rfl trivial ?_ rfl); simp only [Try.ntmps91, List.size_toArray, List.length_cons, List.length_nil, Nat.reduceAdd, Nat.reduceSub, Array.replicate_succ, Array.replicate_zero, List.push_toArray, List.append_toArray, List.nil_append, List.cons_append])
    gi_wp2_with fail
    have QS := Lib.hid qs
    clear qs
    generalize ((w.alloc _).alloc _).alloc _ = W1 at q0 q1 q2 QS qb ⊢
    refine ⟨trivial, calls_any (r := none) ((checkSort_c b s _).mono ?_)⟩
    rintro e w1 ⟨rfl, hb1⟩
    replace q0 := (hb1.block _ (size_of_block q0)).trans q0
    replace q1 := (hb1.block _ (size_of_block q1)).trans q1
    replace q2 := (hb1.block _ (size_of_block q2)).trans q2
    have B1 := below_then qb hb1
    clear hb1 qb
    gi_wp2_with fail
    gi_loopw [23] (fun i wr => ∃ j : Nat, j ≤ l.length ∧ i = .int .i64 j ∧ Hid ((l.take j).find? (fun e => e != 0) = none) ∧ Below w1.heap.size w1 wr) (fun i _ => l.length - (intOf i).toNat)
    case atStart => exact ⟨0, by omega, rfl, Lib.hid rfl, Below.refl _ _⟩
    case round =>
      obtain ⟨j, hj, rfl, hall, hb⟩ := hrel
      have hws := hb.size
      have hBw := below_then B1 hb
      by_cases hlt : j < l.length
      · obtain ⟨bl, off, ej, rfl, hbl, hx, hc⟩ := H.out j hlt
        have k0 : wr.cell? ⟨bl, off + j, none⟩ = some (.int .i64 ej) := (hBw.cell (p := ⟨bl, off + j, none⟩) hbl).trans hc
        have hzb : bl < wr.heap.size := by have := hBw.size; omega
        have hst := Lib.hid (take_snoc hx)
        clear hc
        by_cases he : ej = 0
        · subst he
          gi_wp2_with fail
          go_roundw
          case rel => exact ⟨j + 1, by omega, by go_num, Lib.hid (by rw [hst.out, List.find?_append, hall.out]; simp), hb⟩
          case measure => simp [intOf]; omega
        · have hde : (ej != 0) = true := by simpa using he
          have HM := Lib.hid (show moreE_ l = ej by
            have hpre : l.take j ++ [ej] <+: l := by rw [← hst.out]; exact List.take_prefix _ _
            unfold moreE_
            rw [find_first hpre hall.out hde]; rfl)
          have hne := Lib.hid he
          have r2 := (hb.block _ (size_of_block q2)).trans q2
          clear he hx
          have f0 := Joins.unfrozen_of_block r2 0
          have f1 := Joins.unfrozen_of_block r2 1
          have f2 := Joins.unfrozen_of_block r2 2
          have f3 := Joins.unfrozen_of_block r2 3
          have g0 := Joins.cell_of_block r2 0
          have g1 := Joins.cell_of_block r2 1
          have g2 := Joins.cell_of_block r2 2
          have g3 := Joins.cell_of_block r2 3
          have hz := size_of_block r2
          have m9 := put4 (.int .i64 0) (.int .i64 0) (.map none) (.int .i64 0) r2
          have HP := Lib.hid (And.intro (Joins.cell_of_block m9 0) (And.intro (Joins.cell_of_block m9 1) (And.intro (Joins.cell_of_block m9 2) (Joins.cell_of_block m9 3))))
          have HB := Lib.hid hBw
          clear m9
          gi_wp2_with fail
          refine ⟨.tuple #[.agg #[.int .i64 0, .int .i64 0, .map none, .int .i64 0], .int .i64 ej], ?_, ?_, (((HB.out.setCell (by simp; omega) _).setCell (by simp; omega) _).setCell (by simp; omega) _).setCell (by simp; omega) _⟩
          · simp [results, Try.results91, go_sem, HP.out.1, HP.out.2.1, HP.out.2.2.1, HP.out.2.2.2]
          · unfold BelPost; rw [HE.out, HM.out, if_neg hne.out]
      · obtain rfl : j = l.length := by omega
        have hE0 := Lib.hid (show moreE_ l = 0 by have := hall.out; rw [List.take_length] at this; unfold moreE_; rw [this]; rfl)
        have HR := Lib.hid (check_ok K1.out).1
        have HW := Lib.hid (wholesA_eq (check_ok K1.out).1)
        have r0 := (hb.block _ (size_of_block q0)).trans q0
        have r1 := (hb.block _ (size_of_block q1)).trans q1
        have r2 := (hb.block _ (size_of_block q2)).trans q2
        have d0 := Joins.cell_of_block r0 0
        have d1 := Joins.cell_of_block r0 1
        have d2 := Joins.cell_of_block r0 2
        have d3 := Joins.cell_of_block r0 3
        have hz0 := size_of_block r0
        have zr2 := Lib.hid (size_of_block r2)
        have hmm := @run_makeMap Try.prog
        gi_wp2_with fail
        have nM := heap_alloc_new wr (.map #[] 0)
        have fM := FMap.made wr
        have aM := below_alloc wr (.map #[] 0)
        have nB := heap_alloc_new (wr.alloc (.map #[] 0)) (.cells #[.int .i64 0, .int .i64 b.n, .map (some wr.heap.size), .int .i64 0] 128)
        have aB := below_alloc (wr.alloc (.map #[] 0)) (.cells #[.int .i64 0, .int .i64 b.n, .map (some wr.heap.size), .int .i64 0] 128)
        rw [World.size_alloc] at nB
        replace fM := fM.later aB
        have aMB := below_then aM aB
        have zMB : ((wr.alloc (.map #[] 0)).alloc (.cells #[.int .i64 0, .int .i64 b.n, .map (some wr.heap.size), .int .i64 0] 128)).heap.size = wr.heap.size + 2 := by simp
        generalize (wr.alloc (.map #[] 0)).alloc (.cells #[.int .i64 0, .int .i64 b.n, .map (some wr.heap.size), .int .i64 0] 128) = W2 at nB fM aMB zMB ⊢
        have ZM := Lib.hid zMB
        clear nM aM aB zMB hmm
        have hBw2 := below_then hBw aMB
        replace r0 := (aMB.block _ (size_of_block r0)).trans r0
        replace r1 := (aMB.block _ (size_of_block r1)).trans r1
        replace r2 := (aMB.block _ (size_of_block r2)).trans r2
        clear aMB d0 d1 d2 d3 hz0
        refine ⟨trivial, calls_any (r := none) ((waysOf_c b.s _).mono ?_)⟩
        rintro e w3 ⟨rfl, rfl⟩
        have n3 := heap_alloc_new W2 (.cells #[.int .i64 b.s.a, .int .i64 b.s.b, .int .i64 b.s.c] 23)
        have a3 := below_alloc W2 (.cells #[.int .i64 b.s.a, .int .i64 b.s.b, .int .i64 b.s.c] 23)
        generalize W2.alloc (.cells #[.int .i64 b.s.a, .int .i64 b.s.b, .int .i64 b.s.c] 23) = W3 at n3 a3 ⊢
        have fM3 := fM.later a3
        have nB3 := (a3.block _ (size_of_block nB)).trans nB
        replace r0 := (a3.block _ (size_of_block r0)).trans r0
        replace r1 := (a3.block _ (size_of_block r1)).trans r1
        replace r2 := (a3.block _ (size_of_block r2)).trans r2
        have hBw3 := below_then hBw2 a3
        have z23 := size_of_block n3
        clear fM nB hBw2 a3
        have d0 := Joins.cell_of_block r0 0
        have d1 := Joins.cell_of_block r0 1
        have d2 := Joins.cell_of_block r0 2
        have d3 := Joins.cell_of_block r0 3
        have d4 := Joins.cell_of_block r0 4
        have d5 := Joins.cell_of_block r0 5
        have d6 := Joins.cell_of_block r0 6
        have d7 := Joins.cell_of_block r0 7
        have d8 := Joins.cell_of_block r0 8
        have d9 := Joins.cell_of_block r0 9
        have hz0 := size_of_block r0
        gi_wp2_with fail
        have n4 := heap_alloc_new W3 (.cells #[.func (.func 134) #[] #[.pointer (some ⟨W2.heap.size, 0, none⟩)]] 116)
        have a4 := below_alloc W3 (.cells #[.func (.func 134) #[] #[.pointer (some ⟨W2.heap.size, 0, none⟩)]] 116)
        generalize W3.alloc (.cells #[.func (.func 134) #[] #[.pointer (some ⟨W2.heap.size, 0, none⟩)]] 116) = W4 at n4 a4 ⊢
        refine ⟨trivial, calls_any (r := none) ((wholesP_c b _).mono ?_)⟩
        rintro e w5 ⟨rfl, rfl⟩
        have n5 := heap_alloc_new W4 (.cells (btC b) 34)
        have a5 := below_alloc W4 (.cells (btC b) 34)
        generalize W4.alloc (.cells (btC b) 34) = W5 at n5 a5 ⊢
        have a45 := below_then a4 a5
        have fM5 := fM3.later a45
        have nB5 := (a45.block _ (size_of_block nB3)).trans nB3
        have n35 := (a45.block _ (size_of_block n3)).trans n3
        have n45 := (a5.block _ (size_of_block n4)).trans n4
        have r15 := (a45.block _ (size_of_block r1)).trans r1
        have r25 := (a45.block _ (size_of_block r2)).trans r2
        have hBw5 := below_then hBw3 a45
        have s5 := size_of_block n4
        have s3 := size_of_block n3
        have s6 := size_of_block n5
        have hwr := hBw.size
        have sB := size_of_block nB3
        clear d0 d1 d2 d3 d4 d5 d6 d7 d8 d9 hz0 r0 r1 r2 n3 n4 nB3 fM3 a4 a5 a45 hBw3
        gi_wp2_with fail
        have hBsz := hBw5.size
        have hnn := right_n HR.out
        obtain ⟨n1, n2, _, ss1, ss2, ss3, _, _⟩ := hnn
        refine wpIn_over (wholes_g2 (U := 34 :: wholesU) (fun _ h => List.mem_cons_of_mem _ h) (n₀ := w.heap.size) (B := W4.heap.size) (Nat.le_refl _) (by simp) HR.out (by omega) (by omega) n5) rfl (fun _ => rfl) (by omega)
          (fun pre W' => ((FMap W' wr.heap.size (wtF pre b.s s) ∧ W'.heap[wr.heap.size + 1]? = some (.cells #[.int .i64 0, .int .i64 b.n, .map (some wr.heap.size), .int .i64 0] 128)) ∧ (W'.heap[w.heap.size + 1]? = some (.cells #[.int .i64 s] 3) ∧ W'.heap[W3.heap.size]? = some (.cells #[.func (.func 134) #[] #[.pointer (some ⟨W2.heap.size, 0, none⟩)]] 116))) ∧ (W'.heap[W2.heap.size]? = some (.cells #[.int .i64 b.s.a, .int .i64 b.s.b, .int .i64 b.s.c] 23) ∧ W'.heap[w.heap.size + 1 + 1]? = some (.cells #[.int .i64 0, .int .i64 0, .map none, .int .i64 0] 128)) ∧ Below w.heap.size w W')
          (fun _ _ _ => False)
          ((((own_fmap (by omega) _).and (own_cells _ _ _ fun _ => rfl)).and ((own_cells _ _ _ fun _ => rfl).and (own_cells _ _ _ fun _ => rfl))).and (((own_cells _ _ _ fun _ => rfl).and (own_cells _ _ _ fun _ => rfl)).and (ownFrom_below (Nat.le_refl _) (by omega))))
          (fun _ _ _ _ _ hs _ _ => hs) ⟨⟨⟨fM5, nB5⟩, r15, n45⟩, ⟨n35, r25⟩, hBw5⟩
          (fun x a' W' => ∃ Bx, w.heap.size + 1 ≤ Bx ∧ W'.heap[Bx]? = some (.cells #[.int .i64 x.a, .int .i64 x.b, .int .i64 x.c] 23) ∧ ∃ u7 u10 u25 u26 u27 u28 u29 u30 u31 : Value, a' = { tmps := #[btV b, .int .i64 s, .slice A l.length cap, .pointer (some ⟨w.heap.size, 0, none⟩), .pointer (some ⟨w.heap.size + 1, 0, none⟩), undef, .pointer (some ⟨w.heap.size + 1 + 1, 0, none⟩), u7, .int .i64 (kindI b s), undef, u10, .pointer (some ⟨wr.heap.size + 1, 0, none⟩), .pointer (some ⟨W3.heap.size, 0, none⟩), .pointer (some ⟨Bx, 0, none⟩), btV b, .int .i64 s, .int .i64 (kindI b s), .int .i64 (kindI b s), .bool false, undef, undef, .slice A l.length cap, .int .i64 l.length, .int .i64 l.length, .bool false, u25, u26, u27, u28, u29, u30, u31, .pointer (some ⟨w.heap.size, 0, none⟩), .int .i64 b.n, .agg #[.int .i64 0, .int .i64 b.n], .map (some wr.heap.size), .agg #[.int .i64 0, .int .i64 b.n, .map (some wr.heap.size), .int .i64 0], .pointer (some ⟨w.heap.size, 1, none⟩), k3V b.s, .func (.func 134) #[] #[.pointer (some ⟨W2.heap.size, 0, none⟩)], btV b, .func (.func 136) #[] #[.pointer (some ⟨W4.heap.size, 0, none⟩)], k3V x, undef, undef, undef, undef, undef, undef, undef, undef, undef, undef, undef, undef, undef, undef, undef, undef, undef, undef], defers := [] })
          (fun x a' s' X Y row hs hg hrow => by
            obtain ⟨Bx, h1, h2, h3⟩ := hs
            exact ⟨Bx, h1, own_cells (β := Unit) W5.heap.size Bx (fun _ => .cells #[.int .i64 x.a, .int .i64 x.b, .int .i64 x.c] 23) (fun _ => rfl) s' X Y row h2 hg hrow, h3⟩) ?assign ?body ?done ?stop
        case assign =>
          rintro lp pre x W' K hl ⟨⟨⟨i1, i2⟩, i3, i4⟩, ⟨i5, i6⟩, i7⟩ hp hK
          unfold encK
          gi_wp2
          have ha := below_alloc W' (.cells #[.int .i64 x.a, .int .i64 x.b, .int .i64 x.c] 23)
          have hz := size_of_block i3
          have hsz := i7.size
          refine hK _ _ (keeps_of_below ha) (Kp.of_below ha hsz) ⟨⟨⟨i1.later ha, (ha.block _ (size_of_block i2)).trans i2⟩, (ha.block _ hz).trans i3, (ha.block _ (size_of_block i4)).trans i4⟩, ⟨(ha.block _ (size_of_block i5)).trans i5, (ha.block _ (size_of_block i6)).trans i6⟩, below_then i7 ha⟩ ⟨W'.heap.size, by omega, heap_alloc_new _ _, _, _, _, _, _, _, _, _, _, rfl⟩
        case stop =>
          intro D c pre W' _ _ h _
          exact h.elim
        case body =>
          rintro lp pre x a' W' hl hrc ⟨⟨⟨i1, i2⟩, i3, i4⟩, ⟨i5, i6⟩, i7⟩ ⟨Bx, hBx, xB, u7, u10, u25, u26, u27, u28, u29, u30, u31, rfl⟩ hp
          have hpW : pre ++ [x] <+: wholesL b := by rw [← HW.out]; exact hp
          have hx : x ∈ wholesL b := hpW.subset (by simp)
          have hxw := wholes_whole HR.out hx
          have hv := Lib.hid (wtF_two HR.out hpW s)
          have hv0 := Lib.hid (wtF_le HR.out ((List.prefix_append _ _).trans hpW) s (x.get s))
          have hnext := Lib.hid (wtF_next pre b.s s x)
          have e1 := Joins.cell_of_block i2 1
          have e2 := Joins.cell_of_block i2 2
          have es := Joins.cell_of_block i3 0
          have ec := Joins.cell_of_block i4 0
          have x0 := Joins.cell_of_block xB 0
          have x1 := Joins.cell_of_block xB 1
          have x2 := Joins.cell_of_block xB 2
          have v2 := size_of_block i2
          have v3 := size_of_block i3
          have v4 := size_of_block i4
          have vx := size_of_block xB
          obtain ⟨_, _, _, hfv, et, ht⟩ := ways_t (xs := wholesL b) (fun y hy => wholes_whole HR.out hy) ss1 ss2 ss3 i5
          cases hfv
          have hw7 := i7.size
          have zr2 := zr2.out
          have hs3 : s = 0 ∨ s = 1 ∨ s = 2 := by omega
          clear hp hpW
          unfold btV k3V
          rcases hs3 with rfl | rfl | rfl
          · have b1 : 0 ≤ wtF pre b.s 0 x.a + waysI x b.s := hv.out.1
            have b2 : wtF pre b.s 0 x.a + waysI x b.s ≤ 495918532948104 := hv.out.2
            have hnx : (fun y => if y = x.a then wtF pre b.s 0 x.a + waysI x b.s else wtF pre b.s 0 y) = wtF (pre ++ [x]) b.s 0 := hnext.out
            have HNX := Lib.hid hnx
            clear hnx
            gi_wp2_with fail
            refine wpIn_region_grown_tail (r := some lp) 10 (by kernel_rfl) (by kernel_rfl) fun hcg => ?_
            simp only [List.take_succ_cons, List.take_zero, List.drop_succ_cons, List.drop_zero]
            repeat (go_big_quiet_step (fail))
            refine wpQuiet_lookup (.tmp 44) (.tmp 47) x.a rfl rfl rfl rfl i1 ?_
            simp only [Act.put, List.setIfInBounds_toArray, List.set_cons_succ, List.set_cons_zero]
            repeat (go_big_quiet_step (fail))
            refine wpQuiet_value (.tmp 49) (.tmp 50) _ 134 #[] #[.pointer (some ⟨W2.heap.size, 0, none⟩)] (k3V x) (.int .i64 (waysI x b.s)) rfl rfl rfl rfl et (fun g => ht x g.val hx g.b) ?_
            simp only [Act.put, List.setIfInBounds_toArray, List.set_cons_succ, List.set_cons_zero]
            repeat (go_big_quiet_step (fail))
            refine wpQuiet_nil ?_
            intro _ hw'
            obtain ⟨g, hw''⟩ := hw'
            subst hw''
            have i1g := i1.later g.b
            clear hcg
            refine wpListIn_mapUpdate_f (.tmp 44) (.tmp 47) (.tmp 52) x.a (wtF pre b.s 0 x.a + waysI x b.s) rfl rfl rfl rfl rfl i1g ?_
            intro w9 hf9 hg9
            rw [HNX.out] at hf9
            have hsame : ∀ k o, W'.heap[k]? = some o → k ≠ wr.heap.size → w9.heap[k]? = some o := fun k o hk hne => by
              have h1 := (g.b.block _ (size_of_block hk)).trans hk
              exact (hg9.block k (size_of_block h1) (fun e => hne (by cases e; rfl))).trans h1
            have hsz9 := g.b.size
            show Exit.inBlock 3 _ Exit.normal _ w9
            gi_wp2_with fail
            have hzM := ZM.out
            have hz9 := hg9.size
            refine ⟨(keeps_of_below g.b).trans (KeepsFrom.of_grownBy hg9 (fun j e => by cases e; omega)), ⟨(g.b.mono hw7).grown hg9 (by omega) (fun k e => by cases e; exact hwr), fun k cs ty fr hk hxx hu => hsame _ _ hxx (fun e => i1.noCells cs ty fr (by rw [← e]; exact hxx))⟩, ⟨⟨hf9, hsame _ _ i2 (by omega)⟩, hsame _ _ i3 (by omega), hsame _ _ i4 (by omega)⟩, ⟨hsame _ _ i5 (by omega), hsame _ _ i6 (by omega)⟩, (below_then i7 g.b).grown hg9 (by omega) (fun k e => by cases e; exact hwr)⟩
          · have b1 : 0 ≤ wtF pre b.s 1 x.b + waysI x b.s := hv.out.1
            have b2 : wtF pre b.s 1 x.b + waysI x b.s ≤ 495918532948104 := hv.out.2
            have hnx : (fun y => if y = x.b then wtF pre b.s 1 x.b + waysI x b.s else wtF pre b.s 1 y) = wtF (pre ++ [x]) b.s 1 := hnext.out
            have HNX := Lib.hid hnx
            clear hnx
            gi_wp2_with fail
            refine wpIn_region_grown_tail (r := some lp) 10 (by kernel_rfl) (by kernel_rfl) fun hcg => ?_
            simp only [List.take_succ_cons, List.take_zero, List.drop_succ_cons, List.drop_zero]
            repeat (go_big_quiet_step (fail))
            refine wpQuiet_lookup (.tmp 44) (.tmp 47) x.b rfl rfl rfl rfl i1 ?_
            simp only [Act.put, List.setIfInBounds_toArray, List.set_cons_succ, List.set_cons_zero]
            repeat (go_big_quiet_step (fail))
            refine wpQuiet_value (.tmp 49) (.tmp 50) _ 134 #[] #[.pointer (some ⟨W2.heap.size, 0, none⟩)] (k3V x) (.int .i64 (waysI x b.s)) rfl rfl rfl rfl et (fun g => ht x g.val hx g.b) ?_
            simp only [Act.put, List.setIfInBounds_toArray, List.set_cons_succ, List.set_cons_zero]
            repeat (go_big_quiet_step (fail))
            refine wpQuiet_nil ?_
            intro _ hw'
            obtain ⟨g, hw''⟩ := hw'
            subst hw''
            have i1g := i1.later g.b
            clear hcg
            refine wpListIn_mapUpdate_f (.tmp 44) (.tmp 47) (.tmp 52) x.b (wtF pre b.s 1 x.b + waysI x b.s) rfl rfl rfl rfl rfl i1g ?_
            intro w9 hf9 hg9
            rw [HNX.out] at hf9
            have hsame : ∀ k o, W'.heap[k]? = some o → k ≠ wr.heap.size → w9.heap[k]? = some o := fun k o hk hne => by
              have h1 := (g.b.block _ (size_of_block hk)).trans hk
              exact (hg9.block k (size_of_block h1) (fun e => hne (by cases e; rfl))).trans h1
            have hsz9 := g.b.size
            show Exit.inBlock 3 _ Exit.normal _ w9
            gi_wp2_with fail
            have hzM := ZM.out
            have hz9 := hg9.size
            refine ⟨(keeps_of_below g.b).trans (KeepsFrom.of_grownBy hg9 (fun j e => by cases e; omega)), ⟨(g.b.mono hw7).grown hg9 (by omega) (fun k e => by cases e; exact hwr), fun k cs ty fr hk hxx hu => hsame _ _ hxx (fun e => i1.noCells cs ty fr (by rw [← e]; exact hxx))⟩, ⟨⟨hf9, hsame _ _ i2 (by omega)⟩, hsame _ _ i3 (by omega), hsame _ _ i4 (by omega)⟩, ⟨hsame _ _ i5 (by omega), hsame _ _ i6 (by omega)⟩, (below_then i7 g.b).grown hg9 (by omega) (fun k e => by cases e; exact hwr)⟩
          · have b1 : 0 ≤ wtF pre b.s 2 x.c + waysI x b.s := hv.out.1
            have b2 : wtF pre b.s 2 x.c + waysI x b.s ≤ 495918532948104 := hv.out.2
            have hnx : (fun y => if y = x.c then wtF pre b.s 2 x.c + waysI x b.s else wtF pre b.s 2 y) = wtF (pre ++ [x]) b.s 2 := hnext.out
            have HNX := Lib.hid hnx
            clear hnx
            gi_wp2_with fail
            refine wpIn_region_grown_tail (r := some lp) 10 (by kernel_rfl) (by kernel_rfl) fun hcg => ?_
            simp only [List.take_succ_cons, List.take_zero, List.drop_succ_cons, List.drop_zero]
            repeat (go_big_quiet_step (fail))
            refine wpQuiet_lookup (.tmp 44) (.tmp 47) x.c rfl rfl rfl rfl i1 ?_
            simp only [Act.put, List.setIfInBounds_toArray, List.set_cons_succ, List.set_cons_zero]
            repeat (go_big_quiet_step (fail))
            refine wpQuiet_value (.tmp 49) (.tmp 50) _ 134 #[] #[.pointer (some ⟨W2.heap.size, 0, none⟩)] (k3V x) (.int .i64 (waysI x b.s)) rfl rfl rfl rfl et (fun g => ht x g.val hx g.b) ?_
            simp only [Act.put, List.setIfInBounds_toArray, List.set_cons_succ, List.set_cons_zero]
            repeat (go_big_quiet_step (fail))
            refine wpQuiet_nil ?_
            intro _ hw'
            obtain ⟨g, hw''⟩ := hw'
            subst hw''
            have i1g := i1.later g.b
            clear hcg
            refine wpListIn_mapUpdate_f (.tmp 44) (.tmp 47) (.tmp 52) x.c (wtF pre b.s 2 x.c + waysI x b.s) rfl rfl rfl rfl rfl i1g ?_
            intro w9 hf9 hg9
            rw [HNX.out] at hf9
            have hsame : ∀ k o, W'.heap[k]? = some o → k ≠ wr.heap.size → w9.heap[k]? = some o := fun k o hk hne => by
              have h1 := (g.b.block _ (size_of_block hk)).trans hk
              exact (hg9.block k (size_of_block h1) (fun e => hne (by cases e; rfl))).trans h1
            have hsz9 := g.b.size
            show Exit.inBlock 3 _ Exit.normal _ w9
            gi_wp2_with fail
            have hzM := ZM.out
            have hz9 := hg9.size
            refine ⟨(keeps_of_below g.b).trans (KeepsFrom.of_grownBy hg9 (fun j e => by cases e; omega)), ⟨(g.b.mono hw7).grown hg9 (by omega) (fun k e => by cases e; exact hwr), fun k cs ty fr hk hxx hu => hsame _ _ hxx (fun e => i1.noCells cs ty fr (by rw [← e]; exact hxx))⟩, ⟨⟨hf9, hsame _ _ i2 (by omega)⟩, hsame _ _ i3 (by omega), hsame _ _ i4 (by omega)⟩, ⟨hsame _ _ i5 (by omega), hsame _ _ i6 (by omega)⟩, (below_then i7 g.b).grown hg9 (by omega) (fun k e => by cases e; exact hwr)⟩
        case done =>
          rintro D W' hD ⟨⟨⟨i1, i2⟩, i3, i4⟩, ⟨i5, i6⟩, i7⟩ hK
          rw [HW.out] at i1
          have e0 := Joins.cell_of_block i2 0
          have e1 := Joins.cell_of_block i2 1
          have e2 := Joins.cell_of_block i2 2
          have e3 := Joins.cell_of_block i2 3
          have v2 := size_of_block i2
          have v6 := size_of_block i6
          have zr2 := zr2.out
          have hDl := size_of_block hK
          clear i3 i4 i5
          gi_wp2_with fail
          refine wpIn_region_picked_quiet (r := none) [0, 1, 3, 4] [2, 5] [6, 7] (by kernel_rfl) (by kernel_rfl) fun hcg => ?_
          simp only [pick, List.filterMap_cons, List.filterMap_nil, List.getElem?_toArray, List.getElem?_cons_succ, List.getElem?_cons_zero]
          repeat (refine wpRel_step (fun K hK => ?_); go_simp; refine hK _ ?_; clear hK K)
          refine wpRel_nil fun g => ?_
          refine ⟨rfl, ?_⟩
          go_simp
          refine ⟨trivial, calls_any (r := none) ((numbers_c ⟨0, b.n⟩ _).mono ?_)⟩
          rintro e w8 ⟨rfl, rfl⟩
          have n8 := heap_alloc_new g.val (.cells #[.int .i64 0, .int .i64 b.n] 31)
          have a8 := below_alloc g.val (.cells #[.int .i64 0, .int .i64 b.n] 31)
          simp only at n8 a8 ⊢
          generalize g.val.alloc (.cells #[.int .i64 0, .int .i64 b.n] 31) = W8 at n8 a8 ⊢
          have B8 := below_then g.b a8
          refine ⟨B8, fun u hu => ?_⟩
          refine ⟨rfl, ?_⟩
          go_simp
          have B9 := below_then B8 hu
          have n9 := (hu.block _ (size_of_block n8)).trans n8
          refine ⟨trivial, calls_any (r := none) ((total_c _ _ u.heap.size (numsL 0 b.n) (wtF (wholesL b) b.s s) u (numbers_g (s := ⟨0, b.n⟩) (size_of_block n9) (by simp) (by simp only; omega) n9) (Nat.le_refl _) (weight_t _ (i1.later B9)) (fun pre hpre => by have := wt_prefix K1.out s (by omega) (by omega) hpre; omega)).mono ?_)⟩
          rintro e w10 ⟨rfl, hb10⟩
          rw [all_sum HR.out s]
          have B10 := below_then B9 hb10
          refine ⟨B10, fun u2 hu2 => ?_⟩
          have B11 := below_then B10 hu2
          have j2 := (B11.block _ v2).trans i2
          have j6 := (B11.block _ v6).trans i6
          have jf := i1.later B11
          have jK := (B11.block _ hDl).trans hK
          have f2 := Joins.unfrozen_of_block j2 3
          have g0 := Joins.cell_of_block j2 0
          have g1 := Joins.cell_of_block j2 1
          have g2 := Joins.cell_of_block j2 2
          have g3 := Joins.cell_of_block j2 3
          have zj := size_of_block j2
          clear hcg e0 e1 e2 e3
          show wpListIn _ _ _ _ _ _ _ _
          gi_wp2_with fail
          have p2 := Joins.block_setCell (i := 3) j2 (.int .i64 (totalI (weightsL b s)))
          have p6 := (Below.heap_setCell u2 ⟨wr.heap.size + 1, 3, none⟩ (.int .i64 (totalI (weightsL b s))) (w.heap.size + 1 + 1) (by simp only; omega)).trans j6
          have pf := jf.same (Below.heap_setCell u2 ⟨wr.heap.size + 1, 3, none⟩ (.int .i64 (totalI (weightsL b s))) wr.heap.size (by simp only; omega))
          have pK := (KeepsOthers.setCell u2 ⟨wr.heap.size + 1, 3, none⟩ (.int .i64 (totalI (weightsL b s)))).same D _ jK rfl
          have pB := (below_then i7 B11).setCell (p := ⟨wr.heap.size + 1, 3, none⟩) (show w.heap.size ≤ wr.heap.size + 1 by omega) (.int .i64 (totalI (weightsL b s)))
          have hDs : w.heap.size + 1 + 1 ≠ D := by omega
          generalize u2.setCell ⟨wr.heap.size + 1, 3, none⟩ (.int .i64 (totalI (weightsL b s))) = Wf at p2 p6 pf pK pB ⊢
          clear f2 g0 g1 g2 g3 zj j2 j6 jf jK
          simp only [List.setIfInBounds_toArray, List.set_cons_succ, List.set_cons_zero] at p2
          have g0 := Joins.cell_of_block p2 0
          have g1 := Joins.cell_of_block p2 1
          have g2 := Joins.cell_of_block p2 2
          have g3 := Joins.cell_of_block p2 3
          have zj := size_of_block p2
          have f0 := Joins.unfrozen_of_block p6 0
          have f1 := Joins.unfrozen_of_block p6 1
          have f2 := Joins.unfrozen_of_block p6 2
          have f3 := Joins.unfrozen_of_block p6 3
          have k0 := Joins.cell_of_block p6 0
          have k1 := Joins.cell_of_block p6 1
          have k2 := Joins.cell_of_block p6 2
          have k3 := Joins.cell_of_block p6 3
          have zk := size_of_block p6
          have m9 := put4 (.int .i64 0) (.int .i64 b.n) (.map (some wr.heap.size)) (.int .i64 (totalI (weightsL b s))) p6
          have mK : (((((Wf.setCell ⟨w.heap.size + 1 + 1, 0, none⟩ (.int .i64 0)).setCell ⟨w.heap.size + 1 + 1, 1, none⟩ (.int .i64 b.n)).setCell ⟨w.heap.size + 1 + 1, 2, none⟩ (.map (some wr.heap.size))).setCell ⟨w.heap.size + 1 + 1, 3, none⟩ (.int .i64 (totalI (weightsL b s))))).heap[D]? = some (.deferred (some [])) :=
            (KeepsOthers.setCell _ _ _).same D _ ((KeepsOthers.setCell _ _ _).same D _ ((KeepsOthers.setCell _ _ _).same D _ ((KeepsOthers.setCell _ _ _).same D _ pK rfl) rfl) rfl) rfl
          have mf : FMap (((((Wf.setCell ⟨w.heap.size + 1 + 1, 0, none⟩ (.int .i64 0)).setCell ⟨w.heap.size + 1 + 1, 1, none⟩ (.int .i64 b.n)).setCell ⟨w.heap.size + 1 + 1, 2, none⟩ (.map (some wr.heap.size))).setCell ⟨w.heap.size + 1 + 1, 3, none⟩ (.int .i64 (totalI (weightsL b s))))) wr.heap.size (wtF (wholesL b) b.s s) :=
            pf.same ((Below.heap_setCell _ _ _ _ (by simp only; omega)).trans ((Below.heap_setCell _ _ _ _ (by simp only; omega)).trans ((Below.heap_setCell _ _ _ _ (by simp only; omega)).trans (Below.heap_setCell _ _ _ _ (by simp only; omega)))))
          have mB := (((pB.setCell (p := ⟨w.heap.size + 1 + 1, 0, none⟩) (show w.heap.size ≤ w.heap.size + 1 + 1 by omega) (.int .i64 0)).setCell (p := ⟨w.heap.size + 1 + 1, 1, none⟩) (show w.heap.size ≤ w.heap.size + 1 + 1 by omega) (.int .i64 b.n)).setCell (p := ⟨w.heap.size + 1 + 1, 2, none⟩) (show w.heap.size ≤ w.heap.size + 1 + 1 by omega) (.map (some wr.heap.size))).setCell (p := ⟨w.heap.size + 1 + 1, 3, none⟩) (show w.heap.size ≤ w.heap.size + 1 + 1 by omega) (.int .i64 (totalI (weightsL b s)))
          have M9 := Lib.hid m9
          have MK := Lib.hid mK
          have MF := Lib.hid mf
          have MB := Lib.hid mB
          clear m9 mK mf mB pB pK pf
          simp only [noPanic]
          have hDw : wr.heap.size ≠ D := by have := size_of_block i2; omega
          have hwD : w.heap.size ≤ D := by omega
          gi_wp2_with fail
          refine ⟨by simp, .inl ⟨_, _, rfl, run_takeDeferred MK.out, ?_⟩⟩
          have t9 := (World.putObj_heap_other (o := .deferred none) hDs).trans M9.out
          have HP := Lib.hid (And.intro (Joins.cell_of_block t9 0) (And.intro (Joins.cell_of_block t9 1) (And.intro (Joins.cell_of_block t9 2) (Joins.cell_of_block t9 3))))
          have tf := MF.out.same (World.putObj_heap_other (o := .deferred none) hDw)
          refine ⟨.tuple #[belV b.n wr.heap.size (totalI (weightsL b s)), .int .i64 0], ?_, ?_, MB.out.trans (belowK_b (w := w) (Nat.le_refl _) _ D _ _ hwD MK.out rfl rfl)⟩
          · simp [belV, results, Try.results91, go_sem, HP.out.1, HP.out.2.1, HP.out.2.2.1, HP.out.2.2.2]
          · unfold BelPost
            rw [HE.out, hE0.out, if_pos rfl]
            exact ⟨wr.heap.size, rfl, tf⟩
  · have hd : (kindI b s != 0) = true := by simpa using h
    have HE := Lib.hid (show believeE b s l = kindI b s by unfold believeE; rw [if_pos h])
    have hne := Lib.hid h
    clear h
    (refine (callsIn_wide (n := 9)).1 (callsIn_of_wp_marks Try.func91 rfl trivial ?_ rfl); simp only [Try.ntmps91, List.size_toArray, List.length_cons, List.length_nil, Nat.reduceAdd, Nat.reduceSub, Array.replicate_succ, Array.replicate_zero, List.push_toArray, List.append_toArray, List.nil_append, List.cons_append])
    gi_wp2_with fail
    have QS := Lib.hid qs
    clear qs
    generalize ((w.alloc _).alloc _).alloc _ = W1 at q0 q1 q2 QS qb ⊢
    refine ⟨trivial, calls_any (r := none) ((checkSort_c b s _).mono ?_)⟩
    rintro e w1 ⟨rfl, hb1⟩
    replace q2 := (hb1.block _ (size_of_block q2)).trans q2
    have B1 := below_then qb hb1
    clear hb1 qb q0 q1
    have f0 := Joins.unfrozen_of_block q2 0
    have f1 := Joins.unfrozen_of_block q2 1
    have f2 := Joins.unfrozen_of_block q2 2
    have f3 := Joins.unfrozen_of_block q2 3
    have g0 := Joins.cell_of_block q2 0
    have g1 := Joins.cell_of_block q2 1
    have g2 := Joins.cell_of_block q2 2
    have g3 := Joins.cell_of_block q2 3
    have hz := size_of_block q2
    have m9 := put4 (.int .i64 0) (.int .i64 0) (.map none) (.int .i64 0) q2
    have HP := Lib.hid (And.intro (Joins.cell_of_block m9 0) (And.intro (Joins.cell_of_block m9 1) (And.intro (Joins.cell_of_block m9 2) (Joins.cell_of_block m9 3))))
    have HB := Lib.hid B1
    clear m9
    gi_wp2_with fail
    refine ⟨.tuple #[.agg #[.int .i64 0, .int .i64 0, .map none, .int .i64 0], .int .i64 (kindI b s)], ?_, ?_, (((HB.out.setCell (by simp; omega) _).setCell (by simp; omega) _).setCell (by simp; omega) _).setCell (by simp; omega) _⟩
    · simp [results, Try.results91, go_sem, HP.out.1, HP.out.2.1, HP.out.2.2.1, HP.out.2.2.2]
    · unfold BelPost; rw [HE.out, if_neg hne.out]
end Go.Proofs.Ytaaeipjnhjgjdaa
/- The mean of a sort, and the next barrow's, by package sample. -/
namespace Go.Proofs.Ytaaeipjnhjgjdaa
open Go Go.RowKit Go.Shelf

theorem mom_prefix {f gg : Int → Int} : ∀ {pre : List Int}, (∀ x ∈ pre, 0 ≤ f x) → (∀ x ∈ pre, -50 ≤ gg x ∧ gg x ≤ 50) → -(50 * sumL f pre) ≤ sumL (fun x => gg x * f x) pre ∧ sumL (fun x => gg x * f x) pre ≤ 50 * sumL f pre
  | [], _, _ => by simp [sumL_nil]
  | x :: l, hf, hg => by
    have ih := mom_prefix (f := f) (gg := gg) (pre := l) (fun y hy => hf y (by simp [hy])) (fun y hy => hg y (by simp [hy]))
    have h0 := hf x (by simp)
    have h1 := hg x (by simp)
    rw [sumL_cons, sumL_cons]
    have a : gg x * f x ≤ 50 * f x := Int.mul_le_mul_of_nonneg_right h1.2 h0
    have b : (-50) * f x ≤ gg x * f x := Int.mul_le_mul_of_nonneg_right h1.1 h0
    omega
theorem mom_bounds {b : Bt} (h : checkB b = 0) (s : Int) {gg : Int → Int} (hg : ∀ x ∈ numsL 0 b.n, -50 ≤ gg x ∧ gg x ≤ 50) :
    (∀ x ∈ numsL 0 b.n, -4611686018427387904 ≤ gg x * wtF (wholesL b) b.s s x ∧ gg x * wtF (wholesL b) b.s s x ≤ 4611686018427387904) ∧
    (∀ pre, pre <+: numsL 0 b.n → -4611686018427387904 ≤ sumL (fun x => gg x * wtF (wholesL b) b.s s x) pre ∧ sumL (fun x => gg x * wtF (wholesL b) b.s s x) pre ≤ 4611686018427387904) := by
  have hr := (check_ok h).1
  refine ⟨fun x hx => ?_, fun pre hp => ?_⟩
  · have h1 := wtF_le hr (List.prefix_refl _) s x
    have h2 := hg x hx
    have a : gg x * wtF (wholesL b) b.s s x ≤ 50 * wtF (wholesL b) b.s s x := Int.mul_le_mul_of_nonneg_right h2.2 h1.1
    have c : (-50) * wtF (wholesL b) b.s s x ≤ gg x * wtF (wholesL b) b.s s x := Int.mul_le_mul_of_nonneg_right h2.1 h1.1
    omega
  · have h1 := wt_prefix h s (by omega) (by omega) hp
    have h2 := mom_prefix (f := wtF (wholesL b) b.s s) (gg := gg) (pre := pre) (fun x _ => (wtF_le hr (List.prefix_refl _) s x).1) (fun x hx => hg x (hp.subset hx))
    omega
theorem mom_all {b : Bt} (hr : rightB b = true) (s d : Int) : sumL (fun x => (x - d) * wtF (wholesL b) b.s s x) (numsL 0 b.n) = momI (weightsL b s) d := by
  rw [← mom_sum hr s d]
  exact sumL_congr fun x hx => by rw [wtF_eq b s x (mem_nums.1 hx).1]
theorem mean_all {b : Bt} (hr : rightB b = true) (s : Int) : sumL (fun x => x * wtF (wholesL b) b.s s x) (numsL 0 b.n) = momI (weightsL b s) 0 := by
  rw [← mom_all hr s 0]
  exact sumL_congr fun x _ => by rw [Int.sub_zero]
theorem bel_nil {b : Bt} {s : Int} : believeE b s [] = kindI b s := by
  unfold believeE moreE_
  by_cases h : kindI b s ≠ 0
  · rw [if_pos h]
  · rw [if_neg h]
    have : kindI b s = 0 := by omega
    rw [this]; rfl
theorem mean1_t {w : World} (xs : List Int) : Tells Try.prog (.func (.func 102) #[] #[]) (Value.int .i64) xs (fun x => .int .i64 x) w := by
  refine ⟨_, _, _, rfl, enters_of Try.func102 (by kernel_rfl) rfl, fun x W _ _ => ?_⟩
  show Calls _ _ #[.int .i64 x] W (fun e W' => e = .returned (.int .i64 x) ∧ Below W.heap.size W W')
  go_enter Try.func102, Try.ntmps102
  go_wp2
  go_ret
  exact ⟨rfl, Below.refl _ _⟩
set_option maxRecDepth 100000 in
set_option maxHeartbeats 1000000 in
theorem Mean_c (b : Bt) (s : Int) (w : World) : Calls Try.prog 36 #[btV b, .int .i64 s] w fun e w' => e = .returned (.tuple #[rtV (meanR b s).1, .int .i64 (meanR b s).2]) ∧ Below w.heap.size w w' := by
  obtain ⟨q0, q1, qs, qb⟩ := two_new' w (.cells (btC b) 34) (.cells #[.int .i64 0, .int .i64 0] 53)
  unfold btC at q0 q1 qs qb
  unfold btV
  by_cases h : kindI b s = 0
  · have hd : (kindI b s != 0) = false := by simpa using h
    obtain ⟨k1, k2, k3⟩ := kind_ok h
    have HR := Lib.hid (show meanR b s = (ratioI (momI (weightsL b s) 0) (totalI (weightsL b s)), 0) by unfold meanR; rw [if_neg (by rw [h]; simp)])
    have HE := Lib.hid (show believeE b s [] = 0 by rw [bel_nil]; exact h)
    have hr := (check_ok k1).1
    have hnn := right_n hr
    obtain ⟨n1, n2, _, _, _, _, _, _⟩ := hnn
    have hm0 := mom_nonneg hr s (d := 0) (seen_get hr s).1
    have hmom := mom_bounds k1 s (gg := fun x => x) (fun x hx => by have := mem_nums.1 hx; omega)
    have hms := mean_all hr s
    have htot := total_pos k1 s
    have hmb := (hmom.2 _ (List.prefix_refl _)).2
    rw [hms] at hmb
    have HM := Lib.hid hmom
    have HMS := Lib.hid hms
    obtain ⟨ht1, ht2⟩ := htot
    clear h k1 hr hmom hms
    go_enter Try.func36, Try.ntmps36
    go_wp2_with fail
    have QS := Lib.hid qs
    clear qs
    generalize (w.alloc _).alloc _ = W1 at q0 q1 QS qb ⊢
    refine (believed_c b s [] _ _ Sl.nil_).mono ?_
    rintro e w1 ⟨hp, hb1⟩
    unfold BelPost at hp
    rw [if_pos HE.out] at hp
    obtain ⟨r, rfl, hf⟩ := hp
    replace q1 := (hb1.block _ (size_of_block q1)).trans q1
    have B1 := below_then qb hb1
    clear hb1 qb q0
    have aB := below_alloc w1 (.cells #[.int .i64 0, .int .i64 b.n, .map (some r), .int .i64 (totalI (weightsL b s))] 128)
    have nB := heap_alloc_new w1 (.cells #[.int .i64 0, .int .i64 b.n, .map (some r), .int .i64 (totalI (weightsL b s))] 128)
    unfold belV
    go_wp2_with fail
    generalize w1.alloc (.cells #[.int .i64 0, .int .i64 b.n, .map (some r), .int .i64 (totalI (weightsL b s))] 128) = W2 at aB nB ⊢
    refine (times_c b.n (totalI (weightsL b s)) r (wtF (wholesL b) b.s s) (fun x => x) _ W2 (hf.later aB) (mean1_t _) n2 HM.out.1 HM.out.2).mono ?_
    rintro e w3 ⟨rfl, hb3⟩
    rw [HMS.out]
    replace q1 := ((below_then aB hb3).block _ (size_of_block q1)).trans q1
    have nB3 := (hb3.block _ (size_of_block nB)).trans nB
    have e3 := Joins.cell_of_block nB3 3
    have zB := size_of_block nB3
    have B3 := below_then B1 (below_then aB hb3)
    clear hb3 nB aB B1
    go_wp2_with fail
    refine (ratioP_c (momI (weightsL b s) 0) (totalI (weightsL b s)) _ (by omega) (by omega) (by omega) (by omega)).mono ?_
    rintro e w4 ⟨rfl, hb4⟩
    have f := (hb4.block _ (size_of_block q1)).trans q1
    have hBu := below_then B3 hb4
    have g0 := Joins.cell_of_block f 0
    have g1 := Joins.cell_of_block f 1
    have f0 := Joins.unfrozen_of_block f 0
    have f1 := Joins.unfrozen_of_block f 1
    have hzf := size_of_block f
    generalize hRR : ratioI (momI (weightsL b s) 0) (totalI (weightsL b s)) = R at HR ⊢
    have HP := Lib.hid (put2 (.int .i64 R.num) (.int .i64 R.den) f)
    clear e3 zB nB3 q1 hb4
    unfold rtV
    go_wp2_with fail
    refine bodyPost_ret (v := .tuple #[rtV R, .int .i64 0]) ?_ rfl ⟨by rw [HR.out], (hBu.setCell (by simp) _).setCell (by simp) _⟩
    simp [rtV, results, Try.results36, go_sem, HP.out.1, HP.out.2]
  · have hd : (kindI b s != 0) = true := by simpa using h
    have HR := Lib.hid (show meanR b s = (⟨0, 0⟩, kindI b s) by unfold meanR; rw [if_pos h])
    have HE := Lib.hid (show believeE b s [] = kindI b s from bel_nil)
    have HN := Lib.hid h
    clear h
    go_enter Try.func36, Try.ntmps36
    go_wp2_with fail
    have QS := Lib.hid qs
    clear qs
    generalize (w.alloc _).alloc _ = W1 at q0 q1 QS qb ⊢
    refine (believed_c b s [] _ _ Sl.nil_).mono ?_
    rintro e w1 ⟨hp, hb1⟩
    unfold BelPost at hp
    rw [HE.out, if_neg HN.out] at hp
    subst hp
    replace q1 := (hb1.block _ (size_of_block q1)).trans q1
    have B1 := below_then qb hb1
    clear hb1 qb q0
    have g0 := Joins.cell_of_block q1 0
    have g1 := Joins.cell_of_block q1 1
    have f0 := Joins.unfrozen_of_block q1 0
    have f1 := Joins.unfrozen_of_block q1 1
    have hzf := size_of_block q1
    have HP := Lib.hid (put2 (.int .i64 0) (.int .i64 0) q1)
    have HBB := Lib.hid ((((B1.setCell (p := ⟨w.heap.size + 1, 0, none⟩) (show w.heap.size ≤ w.heap.size + 1 by omega) (.int .i64 0)).setCell (p := ⟨w.heap.size + 1, 1, none⟩) (show w.heap.size ≤ w.heap.size + 1 by omega) (.int .i64 0)).alloc (by simp; have := B1.size; omega) (.cells #[.int .i64 0, .int .i64 0, .map none, .int .i64 0] 128)))
    clear q1
    go_wp2_with fail
    refine bodyPost_ret (v := .tuple #[rtV ⟨0, 0⟩, .int .i64 (kindI b s)]) ?_ rfl ⟨by rw [HR.out], HBB.out⟩
    simp [rtV, results, Try.results36, go_sem, HP.out.1, HP.out.2, hzf]
theorem next1_t {b : Bt} {s : Int} {w : World} {b0 b1 : Nat} (xs : List Int) (hs : 0 ≤ s) (hs2 : s ≤ 2) (hsn : 0 ≤ b.s.a ∧ 0 ≤ b.s.b ∧ 0 ≤ b.s.c ∧ b.s.a + b.s.b + b.s.c ≤ 50) (hx : ∀ x ∈ xs, 0 ≤ x ∧ x ≤ 50)
    (c0 : w.heap[b0]? = some (.cells (btC b) 34)) (c1 : w.heap[b1]? = some (.cells #[.int .i64 s] 3)) :
    Tells Try.prog (.func (.func 104) #[] #[.pointer (some ⟨b0, 0, none⟩), .pointer (some ⟨b1, 0, none⟩)]) (Value.int .i64) xs (fun x => .int .i64 (x - b.s.get s)) w := by
  refine ⟨_, _, _, rfl, enters_of Try.func104 (by kernel_rfl) rfl, fun x W hm hb => ?_⟩
  have hx' := hx x hm
  obtain ⟨x1, x2⟩ := hx'
  obtain ⟨s1, s2, s3, s4⟩ := hsn
  have e0 := (hb.block _ (size_of_block c0)).trans c0
  have e1 := (hb.block _ (size_of_block c1)).trans c1
  unfold btC at e0
  have d1 := Joins.cell_of_block e0 1
  have d2 := Joins.cell_of_block e0 2
  have d3 := Joins.cell_of_block e0 3
  have p0 := Joins.cell_of_block e1 0
  have hs3 : s = 0 ∨ s = 1 ∨ s = 2 := by omega
  show Calls _ _ #[.int .i64 x, .pointer (some ⟨b0, 0, none⟩), .pointer (some ⟨b1, 0, none⟩)] W (fun e W' => e = .returned (.int .i64 (x - b.s.get s)) ∧ Below W.heap.size W W')
  clear hb c0 c1 e0 e1 hx hm
  rcases hs3 with rfl | rfl | rfl
  all_goals
    go_enter Try.func104, Try.ntmps104
    go_wp2
    go_ret
    exact ⟨rfl, Below.refl _ _⟩
set_option maxRecDepth 100000 in
set_option maxHeartbeats 2000000 in
theorem Next_c (b : Bt) (s : Int) (w : World) : Calls Try.prog 38 #[btV b, .int .i64 s] w fun e w' => e = .returned (.tuple #[rtV (nextR b s).1, .int .i64 (nextR b s).2]) ∧ Below w.heap.size w w' := by
  obtain ⟨q0, qm, q1, qs, qb⟩ := three_new w (.cells (btC b) 34) (.cells #[.int .i64 s] 3) (.cells #[.int .i64 0, .int .i64 0] 53)
  unfold btC at q0 qm q1 qs qb
  unfold btV
  by_cases h : kindI b s = 0
  · have hd : (kindI b s != 0) = false := by simpa using h
    obtain ⟨k1, k2, k3⟩ := kind_ok h
    have HE := Lib.hid (show believeE b s [] = 0 by rw [bel_nil]; exact h)
    have HK := Lib.hid h
    have hr := (check_ok k1).1
    have hnn := right_n hr
    obtain ⟨n1, n2, _, ss1, ss2, ss3, has, hal⟩ := hnn
    have hm0 := mom_nonneg hr s (d := b.s.get s) (Int.le_refl _)
    have hsg := seen_get hr s
    have hmom := mom_bounds k1 s (gg := fun x => x - b.s.get s) (fun x hx => by have := mem_nums.1 hx; omega)
    have hms := mom_all hr s (b.s.get s)
    have htot := total_pos k1 s
    have hmb := (hmom.2 _ (List.prefix_refl _)).2
    rw [hms] at hmb
    have HM := Lib.hid hmom
    have HMS := Lib.hid hms
    have HAS := Lib.hid has
    obtain ⟨ht1, ht2⟩ := htot
    rw [has] at hal
    clear h k1 hr hmom hms has
    go_enter Try.func38, Try.ntmps38
    go_wp2_with fail
    have QS := Lib.hid qs
    clear qs
    generalize ((w.alloc _).alloc _).alloc _ = W1 at q0 qm q1 QS qb ⊢
    refine (believed_c b s [] _ _ Sl.nil_).mono ?_
    rintro e w1 ⟨hp, hb1⟩
    unfold BelPost at hp
    rw [if_pos HE.out] at hp
    obtain ⟨r, rfl, hf⟩ := hp
    replace q0 := (hb1.block _ (size_of_block q0)).trans q0
    replace qm := (hb1.block _ (size_of_block qm)).trans qm
    replace q1 := (hb1.block _ (size_of_block q1)).trans q1
    have B1 := below_then qb hb1
    clear hb1 qb
    have aB := below_alloc w1 (.cells #[.int .i64 0, .int .i64 b.n, .map (some r), .int .i64 (totalI (weightsL b s))] 128)
    have nB := heap_alloc_new w1 (.cells #[.int .i64 0, .int .i64 b.n, .map (some r), .int .i64 (totalI (weightsL b s))] 128)
    unfold belV
    go_wp2_with fail
    generalize w1.alloc (.cells #[.int .i64 0, .int .i64 b.n, .map (some r), .int .i64 (totalI (weightsL b s))] 128) = W2 at aB nB ⊢
    replace q0 := (aB.block _ (size_of_block q0)).trans q0
    replace qm := (aB.block _ (size_of_block qm)).trans qm
    replace q1 := (aB.block _ (size_of_block q1)).trans q1
    have hf2 := hf.later aB
    have B2 := below_then B1 aB
    have zb2 := size_of_block nB
    clear B1 aB hf
    have d0 := Joins.cell_of_block q0 0
    have d1 := Joins.cell_of_block q0 1
    have d2 := Joins.cell_of_block q0 2
    have d3 := Joins.cell_of_block q0 3
    have zq := size_of_block q0
    refine wp_region_grown (by kernel_rfl) (by kernel_rfl) fun hcg => ?_
    repeat (go_big_quiet_step (first | (go_at_call 103; exact Calls.grown (countP_c b.s _ ⟨ss1, ss2, ss3, by omega⟩))))
    refine wpQuiet_nil ?_
    intro _ hw'
    obtain ⟨g, hw''⟩ := hw'
    subst hw''
    replace q0 := (g.b.block _ (size_of_block q0)).trans q0
    replace qm := (g.b.block _ (size_of_block qm)).trans qm
    replace q1 := (g.b.block _ (size_of_block q1)).trans q1
    replace nB := (g.b.block _ (size_of_block nB)).trans nB
    have hf3 := hf2.later g.b
    have B3 := below_then B2 g.b
    clear d0 d1 d2 d3 zq hcg zb2 hf2 B2
    generalize g.val = W3 at q0 qm q1 nB hf3 B3 ⊢
    by_cases hl : b.n - (b.s.a + b.s.b + b.s.c) = 0
    · have HR := Lib.hid (show nextR b s = (⟨0, 0⟩, 5) by unfold nextR; rw [if_neg (by rw [HK.out]; simp), HAS.out, if_pos hl])
      have g0 := Joins.cell_of_block q1 0
      have g1 := Joins.cell_of_block q1 1
      have f0 := Joins.unfrozen_of_block q1 0
      have f1 := Joins.unfrozen_of_block q1 1
      have hzf := size_of_block q1
      have HP := Lib.hid (put2 (.int .i64 0) (.int .i64 0) q1)
      have hdl : (b.n - (b.s.a + b.s.b + b.s.c) == 0) = true := by simpa using hl
      have HBB := Lib.hid ((B3.setCell (p := ⟨w.heap.size + 1 + 1, 0, none⟩) (show w.heap.size ≤ w.heap.size + 1 + 1 by omega) (.int .i64 0)).setCell (p := ⟨w.heap.size + 1 + 1, 1, none⟩) (show w.heap.size ≤ w.heap.size + 1 + 1 by omega) (.int .i64 0))
      clear q0 qm q1 nB hf3
      go_wp2_with fail
      refine bodyPost_ret (v := .tuple #[rtV ⟨0, 0⟩, .int .i64 5]) ?_ rfl ⟨by rw [HR.out], HBB.out⟩
      simp [rtV, results, Try.results38, go_sem, HP.out.1, HP.out.2]
    · have HR := Lib.hid (show nextR b s = (ratioI (momI (weightsL b s) (b.s.get s)) ((b.n - (b.s.a + b.s.b + b.s.c)) * totalI (weightsL b s)), 0) by unfold nextR; rw [if_neg (by rw [HK.out]; simp), HAS.out, if_neg hl])
      have hdl : (b.n - (b.s.a + b.s.b + b.s.c) == 0) = false := by simpa using hl
      have hl1 : 1 ≤ b.n - (b.s.a + b.s.b + b.s.c) := by omega
      have mp1 : 0 < totalI (weightsL b s) * (b.n - (b.s.a + b.s.b + b.s.c)) := Int.mul_pos (by omega) (by omega)
      have mp2 : totalI (weightsL b s) * (b.n - (b.s.a + b.s.b + b.s.c)) ≤ 495918532948104 * 50 := Int.mul_le_mul ht2 (by omega) (by omega) (by omega)
      have e0 := Joins.cell_of_block nB 0
      have e1 := Joins.cell_of_block nB 1
      have e2 := Joins.cell_of_block nB 2
      have e3 := Joins.cell_of_block nB 3
      have zB := size_of_block nB
      go_wp2_with fail
      refine (times_c b.n (totalI (weightsL b s)) r (wtF (wholesL b) b.s s) (fun x => x - b.s.get s) _ W3 hf3 (next1_t (numsL 0 b.n) k2 k3 ⟨ss1, ss2, ss3, by omega⟩ (fun x hx => by have := mem_nums.1 hx; omega) q0 qm) n2 HM.out.1 HM.out.2).mono ?_
      rintro e w3 ⟨rfl, hb3⟩
      rw [HMS.out]
      replace q1 := (hb3.block _ (size_of_block q1)).trans q1
      have nB3 := (hb3.block _ (size_of_block nB)).trans nB
      have B4 := below_then B3 hb3
      clear e0 e1 e2 e3 zB q0 qm hf3 hb3 nB B3
      have e3 := Joins.cell_of_block nB3 3
      have zB := size_of_block nB3
      go_wp2_with fail
      refine (ratioP_c (momI (weightsL b s) (b.s.get s)) (totalI (weightsL b s) * (b.n - (b.s.a + b.s.b + b.s.c))) _ (by omega) (by omega) (by omega) (by omega)).mono ?_
      rintro e w4 ⟨rfl, hb4⟩
      have f := (hb4.block _ (size_of_block q1)).trans q1
      have hBu := below_then B4 hb4
      have g0 := Joins.cell_of_block f 0
      have g1 := Joins.cell_of_block f 1
      have f0 := Joins.unfrozen_of_block f 0
      have f1 := Joins.unfrozen_of_block f 1
      have hzf := size_of_block f
      rw [Int.mul_comm (totalI (weightsL b s))]
      generalize hRR : ratioI (momI (weightsL b s) (b.s.get s)) ((b.n - (b.s.a + b.s.b + b.s.c)) * totalI (weightsL b s)) = R at HR ⊢
      have HP := Lib.hid (put2 (.int .i64 R.num) (.int .i64 R.den) f)
      clear e3 zB nB3 q1 hb4
      unfold rtV
      go_wp2_with fail
      refine bodyPost_ret (v := .tuple #[rtV R, .int .i64 0]) ?_ rfl ⟨by rw [HR.out], (hBu.setCell (by simp; omega) _).setCell (by simp; omega) _⟩
      simp [rtV, results, Try.results38, go_sem, HP.out.1, HP.out.2]
  · have hd : (kindI b s != 0) = true := by simpa using h
    have HR := Lib.hid (show nextR b s = (⟨0, 0⟩, kindI b s) by unfold nextR; rw [if_pos h])
    have HE := Lib.hid (show believeE b s [] = kindI b s from bel_nil)
    have HN := Lib.hid h
    clear h
    go_enter Try.func38, Try.ntmps38
    go_wp2_with fail
    have QS := Lib.hid qs
    clear qs
    generalize ((w.alloc _).alloc _).alloc _ = W1 at q0 qm q1 QS qb ⊢
    refine (believed_c b s [] _ _ Sl.nil_).mono ?_
    rintro e w1 ⟨hp, hb1⟩
    unfold BelPost at hp
    rw [HE.out, if_neg HN.out] at hp
    subst hp
    replace q1 := (hb1.block _ (size_of_block q1)).trans q1
    have B1 := below_then qb hb1
    clear hb1 qb q0 qm
    have g0 := Joins.cell_of_block q1 0
    have g1 := Joins.cell_of_block q1 1
    have f0 := Joins.unfrozen_of_block q1 0
    have f1 := Joins.unfrozen_of_block q1 1
    have hzf := size_of_block q1
    have HP := Lib.hid (put2 (.int .i64 0) (.int .i64 0) q1)
    have HBB := Lib.hid ((((B1.setCell (p := ⟨w.heap.size + 1 + 1, 0, none⟩) (show w.heap.size ≤ w.heap.size + 1 + 1 by omega) (.int .i64 0)).setCell (p := ⟨w.heap.size + 1 + 1, 1, none⟩) (show w.heap.size ≤ w.heap.size + 1 + 1 by omega) (.int .i64 0)).alloc (by simp; have := B1.size; omega) (.cells #[.int .i64 0, .int .i64 0, .map none, .int .i64 0] 128)))
    clear q1
    go_wp2_with fail
    refine bodyPost_ret (v := .tuple #[rtV ⟨0, 0⟩, .int .i64 (kindI b s)]) ?_ rfl ⟨by rw [HR.out], HBB.out⟩
    simp [rtV, results, Try.results38, go_sem, HP.out.1, HP.out.2, hzf]
end Go.Proofs.Ytaaeipjnhjgjdaa
/- The weights of a sort, by package sample. -/
namespace Go.Proofs.Ytaaeipjnhjgjdaa
open Go Go.RowKit Go.Shelf
attribute [local go_sem] Oper.semAt_some
attribute [local go_sem] Rel RelAt RelUpon RelG RelS

theorem appended2 {u w9 : World} {n₀ n₁ Bx B : Nat} {t e : TypeId} {size : Nat} {v v' : Value} {k m : Nat} {xs ys : List Value} {U : List TypeId}
    (hv : Go.Boxed u Bx t v) (hte : t ≠ e) (hrow : u.ownsRow n₁ e size v k xs) (hn₁ : n₁ ≤ u.heap.size) (hB : n₁ ≤ Bx)
    (hown' : w9.ownsRow n₁ e size v' m ys) (hgrow : u.grownBy w9 v.ownBlock) (hn : n₀ ≤ n₁) (ht : t ∉ U) (he : e ∉ U) :
    Go.Boxed w9 Bx t v ∧ Go.Boxed (w9.setCell ⟨Bx, 0, none⟩ v') Bx t v' ∧ (w9.setCell ⟨Bx, 0, none⟩ v').ownsRow n₁ e size v' m ys ∧ KeepsOthers u (w9.setCell ⟨Bx, 0, none⟩ v') ∧ Kp n₀ B U u (w9.setCell ⟨Bx, 0, none⟩ v') ∧
      (∀ j, j ≠ Bx → v.ownBlock ≠ some j → j < u.heap.size → (w9.setCell ⟨Bx, 0, none⟩ v').heap[j]? = u.heap[j]?) := by
  have hv1 : Go.Boxed w9 Bx t v := hv.kept hgrow (hv.not_row hte hrow)
  have hcell : ∀ j o, v.ownBlock = some j → u.heap[j]? = some o → ∃ cs, o = .cells cs e := fun j o ej hj => by
    rcases hrow.2 with ⟨rfl, _⟩ | ⟨g, cap, cur, rfl, _, hg, _⟩
    · simp [Value.ownBlock] at ej
    · obtain rfl : g = j := by simpa [Value.ownBlock] using ej
      rw [hg] at hj; cases hj; exact ⟨_, rfl⟩
  have hsame : ∀ j, j ≠ Bx → v.ownBlock ≠ some j → j < u.heap.size → (w9.setCell ⟨Bx, 0, none⟩ v').heap[j]? = u.heap[j]? := fun j hj hne hl =>
    (Below.heap_setCell w9 _ v' j hj).trans (hgrow.block j hl (fun e => hne e.symm))
  refine ⟨hv1, hv1.set v', hown'.kept (grownBy_setCell' w9 Bx v') (.inr (hv1.not_row hte hown').symm), ?_, ⟨?_, ?_⟩, hsame⟩
  · refine (KeepsOthers.of_grownBy hgrow fun j o ej hj => ?_).trans (KeepsOthers.setCell _ _ _)
    obtain ⟨cs, rfl⟩ := hcell j o ej hj
    rfl
  · exact (((Below.refl n₁ u).grown hgrow hn₁ fun j ej => (hrow.lt j ej).1).setCell (p := ⟨Bx, 0, none⟩) hB v').mono hn
  · intro j cs ty fr hj hx hu
    refine (hsame j (fun e' => ?_) (fun e' => ?_) (Array.getElem?_eq_some_iff.1 hx).1).trans hx
    · subst e'
      have : u.heap[j]? = some (.cells #[v] t (0, 0)) := hv
      rw [this] at hx; cases hx; exact ht hu
    · obtain ⟨cs', hcs⟩ := hcell j _ e' hx
      cases hcs; exact he hu
theorem own_size {β : Type} {B n : Nat} : OwnFrom B (fun (_ : β) W => n ≤ W.heap.size) := fun _ _ _ _ hs hg _ => Nat.le_trans hs hg.size
theorem weights_wt (b : Bt) (s : Int) (h : 0 ≤ b.n) : (numsL 0 b.n).map (wtF (wholesL b) b.s s) = weightsL b s := by
  rw [weights_map b s h]
  exact List.map_congr_left fun x hx => wtF_eq b s x (mem_nums.1 hx).1
set_option maxRecDepth 100000 in
set_option maxHeartbeats 4000000 in
theorem Weights_c (b : Bt) (s : Int) (w : World) : Calls Try.prog 32 #[btV b, .int .i64 s] w fun e w' => ∃ u, e = .returned (.tuple #[u, .int .i64 (kindI b s)]) ∧ Ints w' w'.heap.size u (if kindI b s = 0 then weightsL b s else []) ∧ Below w.heap.size w w' := by
  obtain ⟨i0, hi, hz0, hz1, hz2⟩ := info_parts Try.info3i
  have HI := Lib.hid hi
  have HI0 := Lib.hid hz0
  have HI1 := Lib.hid hz1
  have HI2 := Lib.hid hz2
  clear hi hz0 hz1 hz2
  have q0 := heap_alloc_new w (.cells (btC b) 34)
  have qb := below_alloc w (.cells (btC b) 34)
  unfold btC at q0 qb
  unfold btV
  by_cases h : kindI b s = 0
  · have hd : (kindI b s != 0) = false := by simpa using h
    obtain ⟨k1, k2, k3⟩ := kind_ok h
    rw [if_pos h]
    have HK := Lib.hid h
    have HE := Lib.hid (show believeE b s [] = 0 by rw [bel_nil]; exact h)
    have hr := (check_ok k1).1
    have hnn := right_n hr
    obtain ⟨n1, n2, _, _, _, _, _, _⟩ := hnn
    have HWW := Lib.hid (weights_wt b s (by omega))
    have HR := Lib.hid hr
    clear h k1 hr
    (refine (callsIn_wide (n := 9)).1 (callsIn_of_wp_marks Try.func32 rfl trivial ?_ rfl); simp only [Try.ntmps32, List.size_toArray, List.length_cons, List.length_nil, Nat.reduceAdd, Nat.reduceSub, Array.replicate_succ, Array.replicate_zero, List.push_toArray, List.append_toArray, List.nil_append, List.cons_append])
    gi_wp2_with fail
    generalize w.alloc _ = W1 at q0 qb ⊢
    refine ⟨trivial, calls_any (r := none) ((believed_c b s [] _ _ Sl.nil_).mono ?_)⟩
    rintro e w1 ⟨hp, hb1⟩
    unfold BelPost at hp
    rw [if_pos HE.out] at hp
    obtain ⟨r, rfl, hf⟩ := hp
    have B1 := below_then qb hb1
    clear hb1 qb q0
    have aB := below_alloc w1 (.cells #[.int .i64 0, .int .i64 b.n, .map (some r), .int .i64 (totalI (weightsL b s))] 128)
    have nB := heap_alloc_new w1 (.cells #[.int .i64 0, .int .i64 b.n, .map (some r), .int .i64 (totalI (weightsL b s))] 128)
    unfold belV
    gi_wp2_with fail
    obtain ⟨u0, u1, us, ub⟩ := two_new' w1 (.cells #[.int .i64 0, .int .i64 b.n, .map (some r), .int .i64 (totalI (weightsL b s))] 128) (.cells #[.slice none 0 0] 46)
    generalize (w1.alloc (.cells #[.int .i64 0, .int .i64 b.n, .map (some r), .int .i64 (totalI (weightsL b s))] 128)).alloc (.cells #[.slice none 0 0] 46) = W2 at u0 u1 us ub ⊢
    have US := Lib.hid us
    clear us aB nB
    refine ⟨trivial, calls_any (r := none) ((numbers_c ⟨0, b.n⟩ _).mono ?_)⟩
    rintro e w3 ⟨rfl, rfl⟩
    have n3 := heap_alloc_new W2 (.cells #[.int .i64 0, .int .i64 b.n] 31)
    have a3 := below_alloc W2 (.cells #[.int .i64 0, .int .i64 b.n] 31)
    simp only at n3 a3 ⊢
    generalize W2.alloc (.cells #[.int .i64 0, .int .i64 b.n] 31) = W3 at n3 a3 ⊢
    replace u0 := (a3.block _ (size_of_block u0)).trans u0
    replace u1 := (a3.block _ (size_of_block u1)).trans u1
    have ub3 := below_then ub a3
    have hf3 := hf.later ub3
    have B3 := below_then B1 ub3
    have s3 := a3.size
    have sB := B1.size
    have rlt := hf.lt
    have z3 := size_of_block n3
    clear a3 ub hf
    gi_wp2_with fail
    have us := US.out
    have hw12 : w1.heap.size + 1 < W2.heap.size := by omega
    refine wpIn_over (numbers_g2 (n₀ := w.heap.size) (B := W2.heap.size) (U := [31]) (s := ⟨0, b.n⟩) (Nat.le_refl _) (by simp) (by simp) (by simp only; omega) n3) rfl (fun _ => rfl) (by omega)
      (fun pre W' => ((∃ v, Go.Boxed W' (w1.heap.size + 1) 46 v ∧ W'.ownsRow (w1.heap.size + 1) 3 1 v pre.length ((pre.map (wtF (wholesL b) b.s s)).map (Value.int .i64)) ∧ True) ∧ (FMap W' r (wtF (wholesL b) b.s s) ∧ W'.heap[w1.heap.size]? = some (.cells #[.int .i64 0, .int .i64 b.n, .map (some r), .int .i64 (totalI (weightsL b s))] 128))) ∧ (W2.heap.size ≤ W'.heap.size ∧ Below w.heap.size w W'))
      (fun _ _ _ => False)
      (((Own.from (holdsRow_own _ _ _ _ _ _ _ (fun _ _ => True)) _).and ((own_fmap (by omega) (fun _ => _)).and (own_cells _ _ _ fun _ => rfl))).and (own_size.and (ownFrom_below (Nat.le_refl _) (by omega))))
      (fun _ _ _ _ _ hs _ _ => hs) ⟨⟨⟨_, u1, World.ownsRow_nil _ _ _ _, trivial⟩, hf3, u0⟩, s3, B3⟩
      (fun x a' _ => a' = { tmps := #[btV b, .int .i64 s, .pointer (some ⟨w.heap.size, 0, none⟩), undef, .slice none 0 0, .int .i64 0, .pointer (some ⟨w1.heap.size, 0, none⟩), .int .i64 0, .pointer (some ⟨w1.heap.size + 1, 0, none⟩), .int .i64 x, .tuple #[belV b.n r (totalI (weightsL b s)), .int .i64 0], btV b, .int .i64 s, .tuple #[belV b.n r (totalI (weightsL b s)), .int .i64 0], belV b.n r (totalI (weightsL b s)), .int .i64 0, .int .i64 0, .bool false, undef, .pointer (some ⟨w1.heap.size, 0, none⟩), .agg #[.int .i64 0, .int .i64 b.n], .func (.func 138) #[] #[.pointer (some ⟨W2.heap.size, 0, none⟩)], .int .i64 x, undef, undef, undef, undef, undef, undef, undef], defers := [] })
      (fun _ _ _ _ _ _ hs _ _ => hs) ?assign ?body ?done ?stop
    case assign =>
      clear us
      intro lp pre x W' K hl hi hp hK
      unfold encI
      gi_wp2
      exact hK _ _ (KeepsFrom.refl _ _) (Kp.refl _ _ _ _) hi rfl
    case stop =>
      intro D c pre W' _ _ h _
      exact h.elim
    case done =>
      clear us
      rintro D W' hD ⟨⟨⟨v, i1, i2, _⟩, i3, i4⟩, i5, i6⟩ hK
      have hc := i1.cell
      rw [HWW.out] at i2
      gi_wp2_with fail
      refine ⟨by simp, .inl ⟨_, _, rfl, run_takeDeferred hK, ?_⟩⟩
      have hlen : (numsL 0 b.n).length = (weightsL b s).length := by rw [← HWW.out, List.length_map]
      refine ⟨.tuple #[v, .int .i64 0], ?_, ⟨v, by rw [HK.out], Ints.of_own (by rw [← hlen]; exact ownsRow_putObj i2 _ hK rfl) (by rw [weights_len]; omega), i6.trans (belowK_b (w := w) (Nat.le_refl _) W' D _ _ (by omega) hK rfl rfl)⟩⟩
      simp [results, Try.results32, go_sem]
    case body =>
      clear us
      rintro lp pre x a' W' hl hrc ⟨⟨⟨v, i1, i2, _⟩, i3, i4⟩, i5, i6⟩ rfl hp
      have hc := i1.cell
      have hz := i1.lt
      have e0 := Joins.cell_of_block i4 0
      have e1 := Joins.cell_of_block i4 1
      have e2 := Joins.cell_of_block i4 2
      have e3 := Joins.cell_of_block i4 3
      have v4 := size_of_block i4
      have hpl := Lib.hid (by have := hp.length_le; simp only [List.length_append, List.length_cons, List.length_nil, numsL, List.length_map, List.length_range] at this; omega : pre.length + 1 ≤ 51)
      unfold belV
      gi_wp2_with fail
      refine wpIn_region_picked_quiet (r := some lp) [0, 1, 2, 3] [4] [5, 6] (by kernel_rfl) (by kernel_rfl) fun hcg => ?_
      simp only [pick, List.filterMap_cons, List.filterMap_nil, List.getElem?_toArray, List.getElem?_cons_succ, List.getElem?_cons_zero]
      refine wpRel_step (fun K hK => ?_); go_simp; refine hK _ ?_; clear hK K
      refine wpRel_step (fun K hK => ?_); go_simp; refine hK _ ?_; clear hK K
      refine wpRel_step (fun K hK => ?_); go_simp; refine hK _ ?_; clear hK K
      refine wpRel_step (fun K hK => ?_); go_simp
      refine ⟨_, fun g => weight_c b.n (totalI (weightsL b s)) x r _ g.val (i3.later g.b), ?_⟩
      refine hK _ ?_
      clear hK K
      refine wpRel_nil fun g => ?_
      have i1g : Go.Boxed g.val (w1.heap.size + 1) 46 v := (g.b.block _ i1.lt).trans i1
      have i2g := own_later i2 g.b
      have hzg := g.b.size
      refine ⟨rfl, ?_⟩
      go_simp
      refine ⟨below_then g.b (below_alloc _ _), fun u hu => ?_⟩
      have i1u : Go.Boxed u (w1.heap.size + 1) 46 v := ((below_then (below_alloc _ _) hu).block _ i1g.lt).trans i1g
      have i2u := own_later i2g (below_then (below_alloc _ _) hu)
      have nu := (hu.block _ (size_of_block (heap_alloc_new g.val (.cells #[.int .i64 (wtF (wholesL b) b.s s x)] 3)))).trans (heap_alloc_new g.val (.cells #[.int .i64 (wtF (wholesL b) b.s s x)] 3))
      have bu := below_then g.b (below_then (below_alloc g.val (.cells #[.int .i64 (wtF (wholesL b) b.s s x)] 3)) hu)
      have hw9 := bu.size
      refine wpListIn_append_own _ rfl (.tmp 23) (.tmp 27) 46 rfl (w1.heap.size + 1) 3 i0 (.int .i64 0) 1 8 Try.underlying46 HI.out HI0.out HI1.out HI2.out rfl (by decide) v _ _ rfl i2u ⟨g.val.heap.size, 0, none⟩ 1 1 [.int .i64 (wtF (wholesL b) b.s s x)] rfl rfl ?c1 ?c2 ?c3 ?c4 ?c5 ?_
      case c1 =>
        intro j uu hj
        cases j with
        | zero => simp only [List.getElem?_cons_zero, Option.some.injEq] at hj; subst hj; have := Joins.cell_of_block nu 0; simpa [Addr.add] using this
        | succ j => simp at hj
      case c2 => exact one_oneCell rfl
      case c3 => have := hpl.out; unfold maxLen; omega
      case c4 => have := hpl.out; omega
      case c5 => omega
      intro v' w9 hown' hgrow _
      obtain ⟨g', cap', rfl⟩ := ownsRow_succ hown'
      obtain ⟨hv1, hv2, hr2, hk2, hkp, hsm⟩ := appended2 (n₀ := w.heap.size) (B := W2.heap.size) (U := [31]) i1u (by decide) i2u (by omega) (Nat.le_refl _) hown' hgrow (by omega) (by decide) (by decide)
      have hc1 := hv1.cell
      have hf1 := hv1.frozen
      have HK2 := Lib.hid hk2
      have HKP := Lib.hid hkp
      have HR2 := Lib.hid hr2
      have HSM := Lib.hid hsm
      have i3u := i3.later bu
      have i4u := (bu.block _ v4).trans i4
      have hoB : ∀ j, v.ownBlock = some j → w1.heap.size + 1 ≤ j := fun j hj => (i2.lt j hj).1
      clear hk2 hkp hr2 hsm hgrow hown' hcg e0 e1 e2 e3
      show wpListIn _ _ _ _ _ _ _ _
      gi_wp2_with fail
      simp only [noPanic]
      gi_wp2_with fail
      have hzz := HK2.out.size
      refine ⟨(keeps_of_below bu).trans (HK2.out.from _), (Kp.of_below bu i6.size).trans HKP.out, ⟨⟨_, hv2, ?_, trivial⟩, i3u.same (HSM.out r (by omega) (fun e => by have := hoB r e; omega) i3u.lt), (HSM.out w1.heap.size (by omega) (fun e => by have := hoB _ e; omega) (size_of_block i4u)).trans i4u⟩, by omega, (below_then i6 bu).trans HKP.out.b⟩
      rw [List.length_append, List.map_append, List.map_append]
      simpa using HR2.out
  · have hd : (kindI b s != 0) = true := by simpa using h
    rw [if_neg h]
    have HE := Lib.hid (show believeE b s [] = kindI b s from bel_nil)
    have HN := Lib.hid h
    clear h
    (refine (callsIn_wide (n := 9)).1 (callsIn_of_wp_marks Try.func32 rfl trivial ?_ rfl); simp only [Try.ntmps32, List.size_toArray, List.length_cons, List.length_nil, Nat.reduceAdd, Nat.reduceSub, Array.replicate_succ, Array.replicate_zero, List.push_toArray, List.append_toArray, List.nil_append, List.cons_append])
    gi_wp2_with fail
    generalize w.alloc _ = W1 at q0 qb ⊢
    refine ⟨trivial, calls_any (r := none) ((believed_c b s [] _ _ Sl.nil_).mono ?_)⟩
    rintro e w1 ⟨hp, hb1⟩
    unfold BelPost at hp
    rw [HE.out, if_neg HN.out] at hp
    subst hp
    have B1 := below_then qb hb1
    clear hb1 qb q0
    gi_wp2_with fail
    refine ⟨.tuple #[.slice none 0 0, .int .i64 (kindI b s)], ?_, ⟨_, rfl, Sl.nil_, below_then B1 (below_alloc _ _)⟩⟩
    simp [results, Try.results32, go_sem]
end Go.Proofs.Ytaaeipjnhjgjdaa
/- The shortest span, by package sample. -/
namespace Go.Proofs.Ytaaeipjnhjgjdaa
open Go Go.RowKit Go.Shelf

theorem checkSpan_c (q : Sp) (w : World) : Calls Try.prog 95 #[spV q] w fun e w' => e = .returned (.int .i64 (if q.hi < q.lo then 1 else 0)) ∧ Below w.heap.size w w' := by
  unfold spV
  by_cases h : q.hi < q.lo
  · rw [if_pos h]
    have d : decide (q.lo ≤ q.hi) = false := by simp; omega
    go_enter Try.func95, Try.ntmps95
    go_wp2_with fail
    refine (spanP_c q _).mono ?_
    rintro e w1 ⟨rfl, hb1⟩
    rw [d]
    go_wp2_with fail
    go_ret
    exact ⟨rfl, below_then (below_alloc _ _) hb1⟩
  · rw [if_neg h]
    have d : decide (q.lo ≤ q.hi) = true := by simp; omega
    go_enter Try.func95, Try.ntmps95
    go_wp2_with fail
    refine (spanP_c q _).mono ?_
    rintro e w1 ⟨rfl, hb1⟩
    rw [d]
    go_wp2_with fail
    go_ret
    exact ⟨rfl, below_then (below_alloc _ _) hb1⟩
theorem span_wt {b : Bt} (hr : rightB b = true) (s : Int) (p : Sp) : sumL (wtF (wholesL b) b.s s) (numsL (max p.lo 0) (min p.hi b.n)) = spanI (weightsL b s) p := by
  rw [← span_sum hr s p]
  exact sumL_congr fun x hx => wtF_eq b s x (by have := (mem_nums.1 hx).1; omega)
theorem withinB_c (b : Bt) (s : Int) (r : Nat) (q : Sp) (w : World) (h : FMap w r (wtF (wholesL b) b.s s)) (hk : checkB b = 0) :
    Calls Try.prog 96 #[belV b.n r (totalI (weightsL b s)), spV q] w fun e w' => e = .returned (rtV ⟨spanI (weightsL b s) q, totalI (weightsL b s)⟩) ∧ Below w.heap.size w w' := by
  have hr := (check_ok hk).1
  have hn := right_n hr
  have := within3_c b.n (totalI (weightsL b s)) r (wtF (wholesL b) b.s s) q w h (by omega) hn.2.1 (fun pre hp => by have := wt_prefix hk s (by omega) (by omega) hp; omega)
  rw [span_wt hr s q] at this
  exact this
theorem span_ok {b : Bt} (s : Int) (q : Sp) : 0 ≤ spanI (weightsL b s) q ∧ spanI (weightsL b s) q ≤ totalI (weightsL b s) := by
  have h3 := spanP_le (l := weightsL b s) (s := q) (weights_nonneg b s) (Nat.le_refl _)
  rw [← spanI_eq, ← totalI_eq] at h3
  exact h3
def shortS (b : Bt) (s : Int) (r : Rt) : Sp := match shortestP b s r with | some x => ⟨x.2, (x.2 : Int) + x.1⟩ | none => ⟨0, b.n⟩
theorem shortS_some {b : Bt} {s : Int} {r : Rt} {x : Nat × Nat} (h : shortestP b s r = some x) : shortS b s r = ⟨x.2, (x.2 : Int) + x.1⟩ := by unfold shortS; rw [h]
theorem shortS_last {b : Bt} {s : Int} {r : Rt} (hn : 0 ≤ b.n) (h : (spansL b.n.toNat b.n.toNat 0).find? (fun x => enoughB (weightsL b s) r x.1 x.2) = none) : shortS b s r = ⟨0, b.n⟩ := by
  have h1 : spansL b.n.toNat (b.n.toNat + 1) 0 = spansL b.n.toNat b.n.toNat 0 ++ [(b.n.toNat, 0)] := by
    rw [← spansL_row, show b.n.toNat + 1 - b.n.toNat = 0 + 1 by omega, spansL_next]
  unfold shortS shortestP
  rw [h1, List.find?_append, h]
  cases hh : enoughB (weightsL b s) r b.n.toNat 0 with
  | true => simp [hh]; omega
  | false => simp [hh]
set_option maxRecDepth 100000 in
set_option maxHeartbeats 4000000 in
theorem shortest_c (b : Bt) (s : Int) (r : Rt) (R : Nat) (w : World) (hf : FMap w R (wtF (wholesL b) b.s s)) (hk : checkB b = 0) (hl : levelB r = true) :
    Calls Try.prog 129 #[belV b.n R (totalI (weightsL b s)), rtV r] w fun e w' => e = .returned (spV (shortS b s r)) ∧ Below w.heap.size w w' := by
  obtain ⟨q0, q1, q2, qs, qb⟩ := three_new w (.cells #[.int .i64 0, .int .i64 b.n, .map (some R), .int .i64 (totalI (weightsL b s))] 128) (.cells #[.int .i64 r.num, .int .i64 r.den] 53) (.cells #[.int .i64 0, .int .i64 0] 31)
  have hr := (check_ok hk).1
  have hn := right_n hr
  obtain ⟨n1, n2, _, _, _, _, _, _⟩ := hn
  obtain ⟨l1, l2, l3, l4⟩ := level_ok hl
  obtain ⟨t1, t2⟩ := total_pos hk s
  have HK := Lib.hid hk
  clear hr hk hl
  unfold belV rtV
  go_enter Try.func129, Try.ntmps129
  go_wp2_with fail
  have QS := Lib.hid qs
  clear qs
  generalize ((w.alloc _).alloc _).alloc _ = W1 at q0 q1 q2 QS qb ⊢
  have hf1 := hf.later qb
  have e0 := Joins.cell_of_block q0 0
  have e1 := Joins.cell_of_block q0 1
  have z0 := size_of_block q0
  go_wp2_with fail
  go_loopw [11] (fun i wr => ∃ j : Nat, (j : Int) ≤ b.n ∧ i = .int .i64 j ∧ Hid ((spansL b.n.toNat j 0).find? (fun x => enoughB (weightsL b s) r x.1 x.2) = none) ∧ Below W1.heap.size W1 wr) (fun i _ => b.n.toNat - (intOf i).toNat)
  case atStart => exact ⟨0, by omega, rfl, Lib.hid rfl, Below.refl _ _⟩
  case round =>
    obtain ⟨i, hi, rfl, hnone, hb⟩ := hrel
    clear e0 e1 z0
    have p0 := (hb.block _ (size_of_block q0)).trans q0
    have p2 := (hb.block _ (size_of_block q2)).trans q2
    have hBw := Lib.hid (below_then qb hb)
    have e0 := Joins.cell_of_block p0 0
    have e1 := Joins.cell_of_block p0 1
    have z0 := size_of_block p0
    by_cases hlt : (i : Int) < b.n
    · go_wp2_with fail
      obtain ⟨wo, rfl⟩ : ∃ wo : World, wo = wr := ⟨_, rfl⟩
      go_loopw [20] (fun k wy => ∃ j : Nat, (j : Int) ≤ b.n - i + 1 ∧ k = .int .i64 j ∧ Hid ((spansL b.n.toNat i j).find? (fun x => enoughB (weightsL b s) r x.1 x.2) = none) ∧ Below W1.heap.size W1 wy) (fun k _ => (b.n - i + 1).toNat - (intOf k).toNat)
      case atStart => exact ⟨0, by omega, rfl, hnone, hb⟩
      case round =>
        obtain ⟨j, hj, rfl, hno, hb2⟩ := hrel
        by_cases hlt2 : (j : Int) < b.n - i + 1
        · have u0 := (hb2.block _ (size_of_block q0)).trans q0
          have u1 := (hb2.block _ (size_of_block q1)).trans q1
          have u2 := (hb2.block _ (size_of_block q2)).trans q2
          have hfu := hf1.later hb2
          have nT := heap_alloc_new wr (.cells #[.int .i64 j, .int .i64 ((j : Int) + i)] 31)
          have aT := below_alloc wr (.cells #[.int .i64 j, .int .i64 ((j : Int) + i)] 31)
          have sp := span_ok (b := b) s ⟨(j : Int), (j : Int) + i⟩
          obtain ⟨sp1, sp2⟩ := sp
          have key : (decide (totalI (weightsL b s) * r.num ≤ spanI (weightsL b s) ⟨(j : Int), (j : Int) + i⟩ * r.den) = true ∧ enoughB (weightsL b s) r i j = true) ∨ (decide (totalI (weightsL b s) * r.num ≤ spanI (weightsL b s) ⟨(j : Int), (j : Int) + i⟩ * r.den) = false ∧ enoughB (weightsL b s) r i j = false) := by
            unfold enoughB
            rcases Bool.eq_false_or_eq_true (decide (totalI (weightsL b s) * r.num ≤ spanI (weightsL b s) ⟨(j : Int), (j : Int) + i⟩ * r.den)) with h | h
            · exact .inl ⟨h, h⟩
            · exact .inr ⟨h, h⟩
          clear e0 e1 z0 p0 p2
          go_wp2_with fail
          generalize wr.alloc (.cells #[.int .i64 j, .int .i64 ((j : Int) + i)] 31) = W5 at nT aT ⊢
          replace u0 := (aT.block _ (size_of_block u0)).trans u0
          replace u1 := (aT.block _ (size_of_block u1)).trans u1
          replace u2 := (aT.block _ (size_of_block u2)).trans u2
          have hf5 := hfu.later aT
          have B5 := below_then hb2 aT
          have e0 := Joins.cell_of_block u0 0
          have e1 := Joins.cell_of_block u0 1
          have e2 := Joins.cell_of_block u0 2
          have e3 := Joins.cell_of_block u0 3
          have l0' := Joins.cell_of_block u1 0
          have l1' := Joins.cell_of_block u1 1
          have t0' := Joins.cell_of_block nT 0
          have t1' := Joins.cell_of_block nT 1
          have z0 := size_of_block u0
          have z1 := size_of_block u1
          have zT := size_of_block nT
          have CM : ∀ bb, decide (totalI (weightsL b s) * r.num ≤ spanI (weightsL b s) ⟨(j : Int), (j : Int) + i⟩ * r.den) = bb → ∀ u : World, Calls Try.prog 110 #[.agg #[.int .i64 (spanI (weightsL b s) ⟨(j : Int), (j : Int) + i⟩), .int .i64 (totalI (weightsL b s))], .agg #[.int .i64 r.num, .int .i64 r.den]] u fun e w' => e = .returned (.bool bb) ∧ Below u.heap.size u w' := fun bb hbb u => by
            have := atLeast_c (spanI (weightsL b s) ⟨(j : Int), (j : Int) + i⟩) (totalI (weightsL b s)) r u (by omega) (by omega) (by omega) (by omega) (by omega) (by omega) (by omega) (by omega)
            rw [hbb] at this; exact this
          clear aT hb2 hfu
          rcases key with ⟨kd, ke⟩ | ⟨kd, ke⟩
          · have KE := Lib.hid ke
            have CT := CM true kd
            clear ke kd CM
            refine wp_region_grown (by kernel_rfl) (by kernel_rfl) fun hcg => ?_
            repeat (go_big_quiet_step (first | (go_at_call 96; refine Calls.grown (withinB_c b s R ⟨(j : Int), (j : Int) + i⟩ _ (hf5.later ?_) HK.out); exact Gr.b _) | (go_at_call 110; exact Calls.grown (CT _))))
            refine wpQuiet_nil ?_
            intro _ hw'
            obtain ⟨g, hw''⟩ := hw'
            subst hw''
            have j2 := (g.b.block _ (size_of_block u2)).trans u2
            have jT := (g.b.block _ zT).trans nT
            have g0 := Joins.cell_of_block jT 0
            have g1 := Joins.cell_of_block jT 1
            have zj := size_of_block jT
            have k0 := Joins.cell_of_block j2 0
            have k1 := Joins.cell_of_block j2 1
            have f0 := Joins.unfrozen_of_block j2 0
            have f1 := Joins.unfrozen_of_block j2 1
            have zk := size_of_block j2
            have HBf := Lib.hid (below_then qb (below_then B5 g.b))
            have HP := Lib.hid (put2 (.int .i64 j) (.int .i64 ((j : Int) + i)) j2)
            have hfin := Lib.hid (shortS_some (b := b) (s := s) (r := r) (x := (i, j)) (by unfold shortestP; exact find_first (by rw [← spansL_next]; exact spansL_le (by omega) (by omega)) hno.out KE.out))
            clear hcg e0 e1 e2 e3 l0' l1' t0' t1' z0 z1 zT
            go_wp2_with fail
            refine bodyPost_ret (v := spV ⟨(j : Int), (j : Int) + i⟩) ?_ rfl ⟨by rw [hfin.out], (HBf.out.setCell (by simp; omega) _).setCell (by simp; omega) _⟩
            simp [spV, results, Try.results129, go_sem, HP.out.1, HP.out.2]
          · have KE := Lib.hid ke
            have CT := CM false kd
            clear ke kd CM
            refine wp_region_grown (by kernel_rfl) (by kernel_rfl) fun hcg => ?_
            repeat (go_big_quiet_step (first | (go_at_call 96; refine Calls.grown (withinB_c b s R ⟨(j : Int), (j : Int) + i⟩ _ (hf5.later ?_) HK.out); exact Gr.b _) | (go_at_call 110; exact Calls.grown (CT _))))
            refine wpQuiet_nil ?_
            intro _ hw'
            obtain ⟨g, hw''⟩ := hw'
            subst hw''
            clear hcg
            go_wp2_with fail
            go_roundw
            case rel => exact ⟨j + 1, by omega, by go_num, Lib.hid (by rw [spansL_next]; exact find_no hno.out KE.out), below_then B5 g.b⟩
            case measure => simp [intOf]; omega
        · go_wp2_with fail
          go_roundw
          case rel => exact ⟨i + 1, by omega, by go_num, Lib.hid (by rw [← spansL_row, show b.n.toNat + 1 - i = j by omega]; exact hno.out), hb2⟩
          case measure => simp [intOf]; omega
    · have hi2 : i = b.n.toNat := by omega
      have hfin := Lib.hid (shortS_last (b := b) (s := s) (r := r) (by omega) (by rw [hi2] at hnone; exact hnone.out))
      have k0 := Joins.cell_of_block p2 0
      have k1 := Joins.cell_of_block p2 1
      have f0 := Joins.unfrozen_of_block p2 0
      have f1 := Joins.unfrozen_of_block p2 1
      have zk := size_of_block p2
      have HP := Lib.hid (put2 (.int .i64 0) (.int .i64 b.n) p2)
      clear hi2
      go_wp2_with fail
      refine bodyPost_ret (v := spV ⟨0, b.n⟩) ?_ rfl ⟨by rw [hfin.out], (hBw.out.setCell (by simp; omega) _).setCell (by simp; omega) _⟩
      simp [spV, results, Try.results129, go_sem, HP.out.1, HP.out.2]
end Go.Proofs.Ytaaeipjnhjgjdaa
/- What a span of numbers is believed, and the shortest span, by package sample. -/
namespace Go.Proofs.Ytaaeipjnhjgjdaa
open Go Go.RowKit Go.Shelf

attribute [local go_sem] Rel RelAt RelUpon
theorem ints1 {w : World} {B : Nat} {x : Int} {t : TypeId} (h : w.heap[B]? = some (.cells #[.int .i64 x] t)) : Ints w w.heap.size (.slice (some ⟨B, 0, none⟩) 1 1) [x] := by
  refine ⟨_, _, rfl, by simp, by simp, fun _ => ⟨B, 0, rfl, size_of_block h, fun i y hi j u hu => ?_⟩⟩
  match i, hi with
  | 0, hi =>
    obtain rfl : x = y := by simpa using hi
    match j, hu with
    | 0, hu => obtain rfl := (by simpa [nC] using hu : Value.int .i64 x = u); exact Joins.cell_of_block h 0
theorem fm4 {w : World} {B r : Nat} {t : TypeId} {p0 p1 p2 p3 : Value} {f : Int → Int} (x0 x1 x2 x3 : Value) (h : w.heap[B]? = some (.cells #[p0, p1, p2, p3] t)) (hf : FMap w r f) :
    FMap ((((w.setCell ⟨B, 0, none⟩ x0).setCell ⟨B, 1, none⟩ x1).setCell ⟨B, 2, none⟩ x2).setCell ⟨B, 3, none⟩ x3) r f := by
  have hne : r ≠ B := fun e => hf.noCells _ _ _ (by rw [e]; exact h)
  exact hf.same ((Below.heap_setCell _ _ _ _ hne).trans ((Below.heap_setCell _ _ _ _ hne).trans ((Below.heap_setCell _ _ _ _ hne).trans (Below.heap_setCell _ _ _ _ hne))))
theorem bel_one {b : Bt} {s x : Int} : believeE b s [x] = if kindI b s ≠ 0 then kindI b s else x := by
  unfold believeE moreE_
  by_cases h : kindI b s ≠ 0
  · rw [if_pos h, if_pos h]
  · rw [if_neg h, if_neg h]
    by_cases hx : x = 0 <;> simp [hx]
set_option maxRecDepth 100000 in
set_option maxHeartbeats 4000000 in
theorem Believed_c (b : Bt) (s : Int) (p : Sp) (w : World) : Calls Try.prog 34 #[btV b, .int .i64 s, spV p] w fun e w' => e = .returned (.tuple #[rtV (believedR b s p).1, .int .i64 (believedR b s p).2]) ∧ Below w.heap.size w w' := by
  obtain ⟨q0, q1, q2, qs, qb⟩ := three_new w (.cells (btC b) 34) (.cells #[.int .i64 p.lo, .int .i64 p.hi] 31) (.cells #[.int .i64 0, .int .i64 0] 53)
  unfold btC at q0 q1 q2 qs qb
  unfold btV
  have HS := Lib.hid (show ∃ x, (if p.hi < p.lo then (1 : Int) else 0) = x ∧ (believeE b s [x] = 0 → believedR b s p = (ratioI (spanI (weightsL b s) p) (totalI (weightsL b s)), 0) ∧ checkB b = 0) ∧ (believeE b s [x] ≠ 0 → believedR b s p = (⟨0, 0⟩, believeE b s [x])) from by
    refine ⟨_, rfl, ?_, ?_⟩ <;> rw [bel_one] <;> unfold believedR <;> intro h
    · by_cases hk : kindI b s ≠ 0
      · rw [if_pos hk] at h; exact absurd h hk
      · rw [if_neg hk] at h ⊢
        have hp : ¬ p.hi < p.lo := by intro hp; rw [if_pos hp] at h; omega
        rw [if_neg hp]
        exact ⟨rfl, (kind_ok (Decidable.not_not.1 hk)).1⟩
    · by_cases hk : kindI b s ≠ 0
      · rw [if_pos hk, if_pos hk]
      · rw [if_neg hk] at h ⊢
        rw [if_neg hk]
        have hp : p.hi < p.lo := by
          rcases Int.lt_or_le p.hi p.lo with hp | hp
          · exact hp
          · rw [if_neg (by omega)] at h; omega
        rw [if_pos hp, if_pos hp])
  obtain ⟨x, hx, hA, hB⟩ := HS.out
  have HA := Lib.hid hA
  have HB := Lib.hid hB
  have CS := checkSpan_c p
  unfold spV at CS ⊢
  rw [hx] at CS
  clear hx hA hB HS
  by_cases h : believeE b s [x] = 0
  · have hE := Lib.hid h
    obtain ⟨hR, hk⟩ := HA.out h
    clear HA HB h
    go_enter Try.func34, Try.ntmps34
    go_wp2_with fail
    have QS := Lib.hid qs
    clear qs
    generalize ((w.alloc _).alloc _).alloc _ = W1 at q0 q1 q2 QS qb ⊢
    refine wp_region_planP 9 [.f [0, 1, 2, 3], .s 4, .s 5] [6, 7, 8] [10, 11] (by kernel_rfl) (by kernel_rfl) (by intro c a d v w h; cases d <;> exact h) fun W2 hb2 => ?_
    have B2 := below_then qb hb2
    replace q0 := (hb2.block _ (size_of_block q0)).trans q0
    replace q1 := (hb2.block _ (size_of_block q1)).trans q1
    replace q2 := (hb2.block _ (size_of_block q2)).trans q2
    clear qb hb2
    have g0 := Joins.cell_of_block q0 0
    have g1 := Joins.cell_of_block q0 1
    have g2 := Joins.cell_of_block q0 2
    have g3 := Joins.cell_of_block q0 3
    have g4 := Joins.cell_of_block q0 4
    have g5 := Joins.cell_of_block q0 5
    have g6 := Joins.cell_of_block q0 6
    have g7 := Joins.cell_of_block q0 7
    have g8 := Joins.cell_of_block q0 8
    have g9 := Joins.cell_of_block q0 9
    have s0 := Joins.cell_of_block q1 0
    have s1 := Joins.cell_of_block q1 1
    have z0 := size_of_block q0
    have z1 := size_of_block q1
    have z2 := size_of_block q2
    have hcg : ∀ (g : Gr W2) b o, b < W2.heap.size → g.val.cell? ⟨b, o, none⟩ = W2.cell? ⟨b, o, none⟩ := fun g b o h => (bcell g.b).1 b o h
    simp only [pick, List.filterMap_cons, List.filterMap_nil, List.getElem?_toArray, List.getElem?_cons_succ, List.getElem?_cons_zero, wpPlanAG, wpPlan, wpPure]
    refine wpRel_step (fun K hK => ?_); go_simp; refine hK _ ?_; clear hK K
    refine wpRel_step (fun K hK => ?_); go_simp; refine hK _ ?_; clear hK K
    refine wpRel_step (fun K hK => ?_); go_simp; refine hK _ ?_; clear hK K
    refine wpRel_step (fun K hK => ?_); go_simp
    apply Exists.intro; refine ⟨fun g => CS g.val, hK _ ?_⟩; clear hK K
    refine wpRel_nil fun W3 hb3 => ?_
    clear g0 g1 g2 g3 g4 g5 g6 g7 g8 g9 s0 s1 hcg
    have G3 := hb3
    clear hb3
    refine ⟨⟨_, rfl, rfl, ?_⟩, ⟨_, rfl, rfl, ?_⟩⟩
    · go_simp
      have nS := heap_alloc_new W3 (.cells #[.int .i64 x] 25)
      have aS := below_alloc W3 (.cells #[.int .i64 x] 25)
      refine ⟨aS, fun W4 hu => ?_⟩
      replace nS := (hu.block _ (size_of_block nS)).trans nS
      have G4 := below_then G3 (below_then aS hu)
      clear hu aS
      go_simp
      refine ⟨?_, ?_⟩
      · refine (believed_c b s [x] _ _ (ints1 nS)).mono ?_
        rintro e W5 ⟨hp, hb⟩
        unfold BelPost at hp
        rw [if_pos hE.out] at hp
        obtain ⟨r, rfl, hf⟩ := hp
        refine ⟨hb, fun W6 hu => ?_⟩
        replace hf := hf.later hu
        replace hb := below_then hb hu
        replace nS := (hb.block _ (size_of_block nS)).trans nS
        have G6 := below_then G4 hb
        clear hb hu
        refine ⟨_, fun _ => rfl, ?_⟩
        go_simp
        have nB := heap_alloc_new W6 (.cells #[.int .i64 0, .int .i64 0, .map none, .int .i64 0] 128)
        have aB := below_alloc W6 (.cells #[.int .i64 0, .int .i64 0, .map none, .int .i64 0] 128)
        have hBn : W2.heap.size ≤ W6.heap.size := G6.size
        refine ⟨aB, fun W7 hu => ?_⟩
        replace nB := (hu.block _ (size_of_block nB)).trans nB
        replace nS := ((below_then aB hu).block _ (size_of_block nS)).trans nS
        replace hf := hf.later (below_then aB hu)
        have G7 := below_then G6 (below_then aB hu)
        clear hu aB
        have f0 := Joins.unfrozen_of_block nB 0
        have f1 := Joins.unfrozen_of_block nB 1
        have f2 := Joins.unfrozen_of_block nB 2
        have f3 := Joins.unfrozen_of_block nB 3
        have g0 := Joins.cell_of_block nB 0
        have g1 := Joins.cell_of_block nB 1
        have g2 := Joins.cell_of_block nB 2
        have g3 := Joins.cell_of_block nB 3
        have hz := size_of_block nB
        have m9 := put4 (.int .i64 0) (.int .i64 b.n) (.map (some r)) (.int .i64 (totalI (weightsL b s))) nB
        have BS : Below W6.heap.size W7 ((((W7.setCell ⟨W6.heap.size, 0, none⟩ (.int .i64 0)).setCell ⟨W6.heap.size, 1, none⟩ (.int .i64 b.n)).setCell ⟨W6.heap.size, 2, none⟩ (.map (some r))).setCell ⟨W6.heap.size, 3, none⟩ (.int .i64 (totalI (weightsL b s)))) := ((((Below.refl _ _).setCell (by simp) _).setCell (by simp) _).setCell (by simp) _).setCell (by simp) _
        replace q1 := (BS.block _ (show w.heap.size + 1 < W6.heap.size by omega)).trans ((G7.block _ z1).trans q1)
        replace q2 := (BS.block _ (show w.heap.size + 1 + 1 < W6.heap.size by omega)).trans ((G7.block _ z2).trans q2)
        have hB2 := B2.size
        have B9 : Below w.heap.size w ((((W7.setCell ⟨W6.heap.size, 0, none⟩ (.int .i64 0)).setCell ⟨W6.heap.size, 1, none⟩ (.int .i64 b.n)).setCell ⟨W6.heap.size, 2, none⟩ (.map (some r))).setCell ⟨W6.heap.size, 3, none⟩ (.int .i64 (totalI (weightsL b s)))) := ((((below_then B2 G7).setCell (by simp; omega) _).setCell (by simp; omega) _).setCell (by simp; omega) _).setCell (by simp; omega) _
        have hf9 := fm4 (.int .i64 0) (.int .i64 b.n) (.map (some r)) (.int .i64 (totalI (weightsL b s))) nB hf
        have s0 := Joins.cell_of_block q1 0
        have s1 := Joins.cell_of_block q1 1
        unfold belV
        clear z0 z1 z2 nS BS q0 hf hB2
        go_wp2_with fail
        generalize (((W7.setCell ⟨W6.heap.size, 0, none⟩ (.int .i64 0)).setCell ⟨W6.heap.size, 1, none⟩ (.int .i64 b.n)).setCell ⟨W6.heap.size, 2, none⟩ (.map (some r))).setCell ⟨W6.heap.size, 3, none⟩ (.int .i64 (totalI (weightsL b s))) = W9 at m9 q1 q2 hf9 B9 s0 s1 ⊢
        have M9 := Lib.hid m9
        have HK := Lib.hid hk
        obtain ⟨t1, t2⟩ := total_pos hk s
        have sp := span_ok (b := b) s p
        clear m9 hk f0 f1 f2 f3 g0 g1 g2 g3 hz s0 s1
        refine (withinB_c b s r p W9 hf9 HK.out).mono ?_
        rintro e w4 ⟨rfl, hb4⟩
        unfold rtV
        go_wp2_with fail
        refine (ratioP_c (spanI (weightsL b s) p) (totalI (weightsL b s)) _ (by omega) (by omega) (by omega) (by omega)).mono ?_
        rintro e w5 ⟨rfl, hb5⟩
        have hb9 := below_then hb4 hb5
        have f := (hb9.block _ (size_of_block q2)).trans q2
        have hBu := below_then B9 hb9
        have g0 := Joins.cell_of_block f 0
        have g1 := Joins.cell_of_block f 1
        have f0 := Joins.unfrozen_of_block f 0
        have f1 := Joins.unfrozen_of_block f 1
        have hzf := size_of_block f
        generalize hRR : ratioI (spanI (weightsL b s) p) (totalI (weightsL b s)) = R at hR ⊢
        have HP := Lib.hid (put2 (.int .i64 R.num) (.int .i64 R.den) f)
        have HR := Lib.hid hR
        clear hR q2 q1 hb4 hb5 hf9 sp
        unfold rtV
        go_wp2_with fail
        refine bodyPost_ret (v := .tuple #[rtV R, .int .i64 0]) ?_ rfl ⟨by rw [HR.out], (hBu.setCell (by show w.heap.size ≤ w.heap.size + 1 + 1; omega) _).setCell (by show w.heap.size ≤ w.heap.size + 1 + 1; omega) _⟩
        simp [rtV, results, Try.results34, go_sem, HP.out.1, HP.out.2]
      · have nB := heap_alloc_new W4 (.cells #[.int .i64 0, .int .i64 0, .map none, .int .i64 0] 128)
        have aB := below_alloc W4 (.cells #[.int .i64 0, .int .i64 0, .map none, .int .i64 0] 128)
        have hBn : W2.heap.size ≤ W4.heap.size := G4.size
        refine ⟨aB, fun W5 hu => ?_⟩
        replace nB := (hu.block _ (size_of_block nB)).trans nB
        replace nS := ((below_then aB hu).block _ (size_of_block nS)).trans nS
        have G5 := below_then G4 (below_then aB hu)
        clear hu aB
        go_simp
        refine (believed_c b s [x] _ _ (ints1 nS)).mono ?_
        rintro e W6 ⟨hp, hb⟩
        unfold BelPost at hp
        rw [if_pos hE.out] at hp
        obtain ⟨r, rfl, hf⟩ := hp
        refine ⟨hb, fun W7 hu => ?_⟩
        replace hf := hf.later hu
        replace hb := below_then hb hu
        replace nS := (hb.block _ (size_of_block nS)).trans nS
        replace nB := (hb.block _ (size_of_block nB)).trans nB
        have G7 := below_then G5 hb
        clear hb hu
        refine ⟨_, fun _ => rfl, ?_⟩
        go_simp
        have f0 := Joins.unfrozen_of_block nB 0
        have f1 := Joins.unfrozen_of_block nB 1
        have f2 := Joins.unfrozen_of_block nB 2
        have f3 := Joins.unfrozen_of_block nB 3
        have g0 := Joins.cell_of_block nB 0
        have g1 := Joins.cell_of_block nB 1
        have g2 := Joins.cell_of_block nB 2
        have g3 := Joins.cell_of_block nB 3
        have hz := size_of_block nB
        have m9 := put4 (.int .i64 0) (.int .i64 b.n) (.map (some r)) (.int .i64 (totalI (weightsL b s))) nB
        have BS : Below W4.heap.size W7 ((((W7.setCell ⟨W4.heap.size, 0, none⟩ (.int .i64 0)).setCell ⟨W4.heap.size, 1, none⟩ (.int .i64 b.n)).setCell ⟨W4.heap.size, 2, none⟩ (.map (some r))).setCell ⟨W4.heap.size, 3, none⟩ (.int .i64 (totalI (weightsL b s)))) := ((((Below.refl _ _).setCell (by simp) _).setCell (by simp) _).setCell (by simp) _).setCell (by simp) _
        replace q1 := (BS.block _ (show w.heap.size + 1 < W4.heap.size by omega)).trans ((G7.block _ z1).trans q1)
        replace q2 := (BS.block _ (show w.heap.size + 1 + 1 < W4.heap.size by omega)).trans ((G7.block _ z2).trans q2)
        have hB2 := B2.size
        have B9 : Below w.heap.size w ((((W7.setCell ⟨W4.heap.size, 0, none⟩ (.int .i64 0)).setCell ⟨W4.heap.size, 1, none⟩ (.int .i64 b.n)).setCell ⟨W4.heap.size, 2, none⟩ (.map (some r))).setCell ⟨W4.heap.size, 3, none⟩ (.int .i64 (totalI (weightsL b s)))) := ((((below_then B2 G7).setCell (by simp; omega) _).setCell (by simp; omega) _).setCell (by simp; omega) _).setCell (by simp; omega) _
        have hf9 := fm4 (.int .i64 0) (.int .i64 b.n) (.map (some r)) (.int .i64 (totalI (weightsL b s))) nB hf
        have s0 := Joins.cell_of_block q1 0
        have s1 := Joins.cell_of_block q1 1
        unfold belV
        clear z0 z1 z2 nS BS q0 hf hB2
        go_wp2_with fail
        generalize (((W7.setCell ⟨W4.heap.size, 0, none⟩ (.int .i64 0)).setCell ⟨W4.heap.size, 1, none⟩ (.int .i64 b.n)).setCell ⟨W4.heap.size, 2, none⟩ (.map (some r))).setCell ⟨W4.heap.size, 3, none⟩ (.int .i64 (totalI (weightsL b s))) = W9 at m9 q1 q2 hf9 B9 s0 s1 ⊢
        have M9 := Lib.hid m9
        have HK := Lib.hid hk
        obtain ⟨t1, t2⟩ := total_pos hk s
        have sp := span_ok (b := b) s p
        clear m9 hk f0 f1 f2 f3 g0 g1 g2 g3 hz s0 s1
        refine (withinB_c b s r p W9 hf9 HK.out).mono ?_
        rintro e w4 ⟨rfl, hb4⟩
        unfold rtV
        go_wp2_with fail
        refine (ratioP_c (spanI (weightsL b s) p) (totalI (weightsL b s)) _ (by omega) (by omega) (by omega) (by omega)).mono ?_
        rintro e w5 ⟨rfl, hb5⟩
        have hb9 := below_then hb4 hb5
        have f := (hb9.block _ (size_of_block q2)).trans q2
        have hBu := below_then B9 hb9
        have g0 := Joins.cell_of_block f 0
        have g1 := Joins.cell_of_block f 1
        have f0 := Joins.unfrozen_of_block f 0
        have f1 := Joins.unfrozen_of_block f 1
        have hzf := size_of_block f
        generalize hRR : ratioI (spanI (weightsL b s) p) (totalI (weightsL b s)) = R at hR ⊢
        have HP := Lib.hid (put2 (.int .i64 R.num) (.int .i64 R.den) f)
        have HR := Lib.hid hR
        clear hR q2 q1 hb4 hb5 hf9 sp
        unfold rtV
        go_wp2_with fail
        refine bodyPost_ret (v := .tuple #[rtV R, .int .i64 0]) ?_ rfl ⟨by rw [HR.out], (hBu.setCell (by show w.heap.size ≤ w.heap.size + 1 + 1; omega) _).setCell (by show w.heap.size ≤ w.heap.size + 1 + 1; omega) _⟩
        simp [rtV, results, Try.results34, go_sem, HP.out.1, HP.out.2]
    · go_simp
      have nB := heap_alloc_new W3 (.cells #[.int .i64 0, .int .i64 0, .map none, .int .i64 0] 128)
      have aB := below_alloc W3 (.cells #[.int .i64 0, .int .i64 0, .map none, .int .i64 0] 128)
      have hBn : W2.heap.size ≤ W3.heap.size := G3.size
      refine ⟨aB, fun W4 hu => ?_⟩
      replace nB := (hu.block _ (size_of_block nB)).trans nB
      have G4 := below_then G3 (below_then aB hu)
      clear hu aB
      go_simp
      have nS := heap_alloc_new W4 (.cells #[.int .i64 x] 25)
      have aS := below_alloc W4 (.cells #[.int .i64 x] 25)
      refine ⟨aS, fun W5 hu => ?_⟩
      replace nS := (hu.block _ (size_of_block nS)).trans nS
      replace nB := ((below_then aS hu).block _ (size_of_block nB)).trans nB
      have G5 := below_then G4 (below_then aS hu)
      clear hu aS
      go_simp
      refine (believed_c b s [x] _ _ (ints1 nS)).mono ?_
      rintro e W6 ⟨hp, hb⟩
      unfold BelPost at hp
      rw [if_pos hE.out] at hp
      obtain ⟨r, rfl, hf⟩ := hp
      refine ⟨hb, fun W7 hu => ?_⟩
      replace hf := hf.later hu
      replace hb := below_then hb hu
      replace nS := (hb.block _ (size_of_block nS)).trans nS
      replace nB := (hb.block _ (size_of_block nB)).trans nB
      have G7 := below_then G5 hb
      clear hb hu
      refine ⟨_, fun _ => rfl, ?_⟩
      go_simp
      have f0 := Joins.unfrozen_of_block nB 0
      have f1 := Joins.unfrozen_of_block nB 1
      have f2 := Joins.unfrozen_of_block nB 2
      have f3 := Joins.unfrozen_of_block nB 3
      have g0 := Joins.cell_of_block nB 0
      have g1 := Joins.cell_of_block nB 1
      have g2 := Joins.cell_of_block nB 2
      have g3 := Joins.cell_of_block nB 3
      have hz := size_of_block nB
      have m9 := put4 (.int .i64 0) (.int .i64 b.n) (.map (some r)) (.int .i64 (totalI (weightsL b s))) nB
      have BS : Below W3.heap.size W7 ((((W7.setCell ⟨W3.heap.size, 0, none⟩ (.int .i64 0)).setCell ⟨W3.heap.size, 1, none⟩ (.int .i64 b.n)).setCell ⟨W3.heap.size, 2, none⟩ (.map (some r))).setCell ⟨W3.heap.size, 3, none⟩ (.int .i64 (totalI (weightsL b s)))) := ((((Below.refl _ _).setCell (by simp) _).setCell (by simp) _).setCell (by simp) _).setCell (by simp) _
      replace q1 := (BS.block _ (show w.heap.size + 1 < W3.heap.size by omega)).trans ((G7.block _ z1).trans q1)
      replace q2 := (BS.block _ (show w.heap.size + 1 + 1 < W3.heap.size by omega)).trans ((G7.block _ z2).trans q2)
      have hB2 := B2.size
      have B9 : Below w.heap.size w ((((W7.setCell ⟨W3.heap.size, 0, none⟩ (.int .i64 0)).setCell ⟨W3.heap.size, 1, none⟩ (.int .i64 b.n)).setCell ⟨W3.heap.size, 2, none⟩ (.map (some r))).setCell ⟨W3.heap.size, 3, none⟩ (.int .i64 (totalI (weightsL b s)))) := ((((below_then B2 G7).setCell (by simp; omega) _).setCell (by simp; omega) _).setCell (by simp; omega) _).setCell (by simp; omega) _
      have hf9 := fm4 (.int .i64 0) (.int .i64 b.n) (.map (some r)) (.int .i64 (totalI (weightsL b s))) nB hf
      have s0 := Joins.cell_of_block q1 0
      have s1 := Joins.cell_of_block q1 1
      unfold belV
      clear z0 z1 z2 nS BS q0 hf hB2
      go_wp2_with fail
      generalize (((W7.setCell ⟨W3.heap.size, 0, none⟩ (.int .i64 0)).setCell ⟨W3.heap.size, 1, none⟩ (.int .i64 b.n)).setCell ⟨W3.heap.size, 2, none⟩ (.map (some r))).setCell ⟨W3.heap.size, 3, none⟩ (.int .i64 (totalI (weightsL b s))) = W9 at m9 q1 q2 hf9 B9 s0 s1 ⊢
      have M9 := Lib.hid m9
      have HK := Lib.hid hk
      obtain ⟨t1, t2⟩ := total_pos hk s
      have sp := span_ok (b := b) s p
      clear m9 hk f0 f1 f2 f3 g0 g1 g2 g3 hz s0 s1
      refine (withinB_c b s r p W9 hf9 HK.out).mono ?_
      rintro e w4 ⟨rfl, hb4⟩
      unfold rtV
      go_wp2_with fail
      refine (ratioP_c (spanI (weightsL b s) p) (totalI (weightsL b s)) _ (by omega) (by omega) (by omega) (by omega)).mono ?_
      rintro e w5 ⟨rfl, hb5⟩
      have hb9 := below_then hb4 hb5
      have f := (hb9.block _ (size_of_block q2)).trans q2
      have hBu := below_then B9 hb9
      have g0 := Joins.cell_of_block f 0
      have g1 := Joins.cell_of_block f 1
      have f0 := Joins.unfrozen_of_block f 0
      have f1 := Joins.unfrozen_of_block f 1
      have hzf := size_of_block f
      generalize hRR : ratioI (spanI (weightsL b s) p) (totalI (weightsL b s)) = R at hR ⊢
      have HP := Lib.hid (put2 (.int .i64 R.num) (.int .i64 R.den) f)
      have HR := Lib.hid hR
      clear hR q2 q1 hb4 hb5 hf9 sp
      unfold rtV
      go_wp2_with fail
      refine bodyPost_ret (v := .tuple #[rtV R, .int .i64 0]) ?_ rfl ⟨by rw [HR.out], (hBu.setCell (by show w.heap.size ≤ w.heap.size + 1 + 1; omega) _).setCell (by show w.heap.size ≤ w.heap.size + 1 + 1; omega) _⟩
      simp [rtV, results, Try.results34, go_sem, HP.out.1, HP.out.2]
  · have hE := Lib.hid h
    have hR := HB.out h
    clear HA HB h
    go_enter Try.func34, Try.ntmps34
    go_wp2_with fail
    have QS := Lib.hid qs
    clear qs
    generalize ((w.alloc _).alloc _).alloc _ = W1 at q0 q1 q2 QS qb ⊢
    refine wp_region_planP 9 [.f [0, 1, 2, 3], .s 4, .s 5] [6, 7, 8] [10, 11] (by kernel_rfl) (by kernel_rfl) (by intro c a d v w h; cases d <;> exact h) fun W2 hb2 => ?_
    have B2 := below_then qb hb2
    replace q0 := (hb2.block _ (size_of_block q0)).trans q0
    replace q1 := (hb2.block _ (size_of_block q1)).trans q1
    replace q2 := (hb2.block _ (size_of_block q2)).trans q2
    clear qb hb2
    have g0 := Joins.cell_of_block q0 0
    have g1 := Joins.cell_of_block q0 1
    have g2 := Joins.cell_of_block q0 2
    have g3 := Joins.cell_of_block q0 3
    have g4 := Joins.cell_of_block q0 4
    have g5 := Joins.cell_of_block q0 5
    have g6 := Joins.cell_of_block q0 6
    have g7 := Joins.cell_of_block q0 7
    have g8 := Joins.cell_of_block q0 8
    have g9 := Joins.cell_of_block q0 9
    have s0 := Joins.cell_of_block q1 0
    have s1 := Joins.cell_of_block q1 1
    have z0 := size_of_block q0
    have z1 := size_of_block q1
    have z2 := size_of_block q2
    have hcg : ∀ (g : Gr W2) b o, b < W2.heap.size → g.val.cell? ⟨b, o, none⟩ = W2.cell? ⟨b, o, none⟩ := fun g b o h => (bcell g.b).1 b o h
    simp only [pick, List.filterMap_cons, List.filterMap_nil, List.getElem?_toArray, List.getElem?_cons_succ, List.getElem?_cons_zero, wpPlanAG, wpPlan, wpPure]
    refine wpRel_step (fun K hK => ?_); go_simp; refine hK _ ?_; clear hK K
    refine wpRel_step (fun K hK => ?_); go_simp; refine hK _ ?_; clear hK K
    refine wpRel_step (fun K hK => ?_); go_simp; refine hK _ ?_; clear hK K
    refine wpRel_step (fun K hK => ?_); go_simp
    apply Exists.intro; refine ⟨fun g => CS g.val, hK _ ?_⟩; clear hK K
    refine wpRel_nil fun W3 hb3 => ?_
    clear g0 g1 g2 g3 g4 g5 g6 g7 g8 g9 s0 s1 hcg
    have G3 := hb3
    clear hb3
    refine ⟨⟨_, rfl, rfl, ?_⟩, ⟨_, rfl, rfl, ?_⟩⟩
    · go_simp
      have nS := heap_alloc_new W3 (.cells #[.int .i64 x] 25)
      have aS := below_alloc W3 (.cells #[.int .i64 x] 25)
      refine ⟨aS, fun W4 hu => ?_⟩
      replace nS := (hu.block _ (size_of_block nS)).trans nS
      have G4 := below_then G3 (below_then aS hu)
      clear hu aS
      go_simp
      refine ⟨?_, ?_⟩
      · refine (believed_c b s [x] _ _ (ints1 nS)).mono ?_
        rintro e W5 ⟨hp, hb⟩
        unfold BelPost at hp
        rw [if_neg hE.out] at hp
        subst hp
        refine ⟨hb, fun W6 hu => ?_⟩
        replace hb := below_then hb hu
        replace nS := (hb.block _ (size_of_block nS)).trans nS
        have G6 := below_then G4 hb
        clear hb hu
        refine ⟨_, fun _ => rfl, ?_⟩
        go_simp
        have nB := heap_alloc_new W6 (.cells #[.int .i64 0, .int .i64 0, .map none, .int .i64 0] 128)
        have aB := below_alloc W6 (.cells #[.int .i64 0, .int .i64 0, .map none, .int .i64 0] 128)
        have hBn : W2.heap.size ≤ W6.heap.size := G6.size
        refine ⟨aB, fun W7 hu => ?_⟩
        replace nB := (hu.block _ (size_of_block nB)).trans nB
        replace nS := ((below_then aB hu).block _ (size_of_block nS)).trans nS
        have G7 := below_then G6 (below_then aB hu)
        clear hu aB
        have f0 := Joins.unfrozen_of_block nB 0
        have f1 := Joins.unfrozen_of_block nB 1
        have f2 := Joins.unfrozen_of_block nB 2
        have f3 := Joins.unfrozen_of_block nB 3
        have g0 := Joins.cell_of_block nB 0
        have g1 := Joins.cell_of_block nB 1
        have g2 := Joins.cell_of_block nB 2
        have g3 := Joins.cell_of_block nB 3
        have hz := size_of_block nB
        have m9 := put4 (.int .i64 0) (.int .i64 0) (.map none) (.int .i64 0) nB
        have BS : Below W6.heap.size W7 ((((W7.setCell ⟨W6.heap.size, 0, none⟩ (.int .i64 0)).setCell ⟨W6.heap.size, 1, none⟩ (.int .i64 0)).setCell ⟨W6.heap.size, 2, none⟩ (.map none)).setCell ⟨W6.heap.size, 3, none⟩ (.int .i64 0)) := ((((Below.refl _ _).setCell (by simp) _).setCell (by simp) _).setCell (by simp) _).setCell (by simp) _
        replace q1 := (BS.block _ (show w.heap.size + 1 < W6.heap.size by omega)).trans ((G7.block _ z1).trans q1)
        replace q2 := (BS.block _ (show w.heap.size + 1 + 1 < W6.heap.size by omega)).trans ((G7.block _ z2).trans q2)
        have hB2 := B2.size
        have B9 : Below w.heap.size w ((((W7.setCell ⟨W6.heap.size, 0, none⟩ (.int .i64 0)).setCell ⟨W6.heap.size, 1, none⟩ (.int .i64 0)).setCell ⟨W6.heap.size, 2, none⟩ (.map none)).setCell ⟨W6.heap.size, 3, none⟩ (.int .i64 0)) := ((((below_then B2 G7).setCell (by simp; omega) _).setCell (by simp; omega) _).setCell (by simp; omega) _).setCell (by simp; omega) _
        have hd : (believeE b s [x] != 0) = true := by simpa using hE.out
        clear z0 z1 z2 nS BS q0 hB2 q1
        have r0 := Joins.cell_of_block q2 0
        have r1 := Joins.cell_of_block q2 1
        have k0 := Joins.unfrozen_of_block q2 0
        have k1 := Joins.unfrozen_of_block q2 1
        have zq := size_of_block q2
        have HP := Lib.hid (put2 (.int .i64 0) (.int .i64 0) q2)
        have HR := Lib.hid hR
        clear hR
        clear q2
        go_wp2_with fail
        generalize (((W7.setCell ⟨W6.heap.size, 0, none⟩ (.int .i64 0)).setCell ⟨W6.heap.size, 1, none⟩ (.int .i64 0)).setCell ⟨W6.heap.size, 2, none⟩ (.map none)).setCell ⟨W6.heap.size, 3, none⟩ (.int .i64 0) = W9 at m9 B9 HP r0 r1 k0 k1 zq ⊢
        refine bodyPost_ret (v := .tuple #[rtV ⟨0, 0⟩, .int .i64 (believeE b s [x])]) ?_ rfl ⟨by rw [HR.out], (B9.setCell (by show w.heap.size ≤ w.heap.size + 1 + 1; omega) _).setCell (by show w.heap.size ≤ w.heap.size + 1 + 1; omega) _⟩
        simp [rtV, results, Try.results34, go_sem, HP.out.1, HP.out.2]
      · have nB := heap_alloc_new W4 (.cells #[.int .i64 0, .int .i64 0, .map none, .int .i64 0] 128)
        have aB := below_alloc W4 (.cells #[.int .i64 0, .int .i64 0, .map none, .int .i64 0] 128)
        have hBn : W2.heap.size ≤ W4.heap.size := G4.size
        refine ⟨aB, fun W5 hu => ?_⟩
        replace nB := (hu.block _ (size_of_block nB)).trans nB
        replace nS := ((below_then aB hu).block _ (size_of_block nS)).trans nS
        have G5 := below_then G4 (below_then aB hu)
        clear hu aB
        go_simp
        refine (believed_c b s [x] _ _ (ints1 nS)).mono ?_
        rintro e W6 ⟨hp, hb⟩
        unfold BelPost at hp
        rw [if_neg hE.out] at hp
        subst hp
        refine ⟨hb, fun W7 hu => ?_⟩
        replace hb := below_then hb hu
        replace nS := (hb.block _ (size_of_block nS)).trans nS
        replace nB := (hb.block _ (size_of_block nB)).trans nB
        have G7 := below_then G5 hb
        clear hb hu
        refine ⟨_, fun _ => rfl, ?_⟩
        go_simp
        have f0 := Joins.unfrozen_of_block nB 0
        have f1 := Joins.unfrozen_of_block nB 1
        have f2 := Joins.unfrozen_of_block nB 2
        have f3 := Joins.unfrozen_of_block nB 3
        have g0 := Joins.cell_of_block nB 0
        have g1 := Joins.cell_of_block nB 1
        have g2 := Joins.cell_of_block nB 2
        have g3 := Joins.cell_of_block nB 3
        have hz := size_of_block nB
        have m9 := put4 (.int .i64 0) (.int .i64 0) (.map none) (.int .i64 0) nB
        have BS : Below W4.heap.size W7 ((((W7.setCell ⟨W4.heap.size, 0, none⟩ (.int .i64 0)).setCell ⟨W4.heap.size, 1, none⟩ (.int .i64 0)).setCell ⟨W4.heap.size, 2, none⟩ (.map none)).setCell ⟨W4.heap.size, 3, none⟩ (.int .i64 0)) := ((((Below.refl _ _).setCell (by simp) _).setCell (by simp) _).setCell (by simp) _).setCell (by simp) _
        replace q1 := (BS.block _ (show w.heap.size + 1 < W4.heap.size by omega)).trans ((G7.block _ z1).trans q1)
        replace q2 := (BS.block _ (show w.heap.size + 1 + 1 < W4.heap.size by omega)).trans ((G7.block _ z2).trans q2)
        have hB2 := B2.size
        have B9 : Below w.heap.size w ((((W7.setCell ⟨W4.heap.size, 0, none⟩ (.int .i64 0)).setCell ⟨W4.heap.size, 1, none⟩ (.int .i64 0)).setCell ⟨W4.heap.size, 2, none⟩ (.map none)).setCell ⟨W4.heap.size, 3, none⟩ (.int .i64 0)) := ((((below_then B2 G7).setCell (by simp; omega) _).setCell (by simp; omega) _).setCell (by simp; omega) _).setCell (by simp; omega) _
        have hd : (believeE b s [x] != 0) = true := by simpa using hE.out
        clear z0 z1 z2 nS BS q0 hB2 q1
        have r0 := Joins.cell_of_block q2 0
        have r1 := Joins.cell_of_block q2 1
        have k0 := Joins.unfrozen_of_block q2 0
        have k1 := Joins.unfrozen_of_block q2 1
        have zq := size_of_block q2
        have HP := Lib.hid (put2 (.int .i64 0) (.int .i64 0) q2)
        have HR := Lib.hid hR
        clear hR
        clear q2
        go_wp2_with fail
        generalize (((W7.setCell ⟨W4.heap.size, 0, none⟩ (.int .i64 0)).setCell ⟨W4.heap.size, 1, none⟩ (.int .i64 0)).setCell ⟨W4.heap.size, 2, none⟩ (.map none)).setCell ⟨W4.heap.size, 3, none⟩ (.int .i64 0) = W9 at m9 B9 HP r0 r1 k0 k1 zq ⊢
        refine bodyPost_ret (v := .tuple #[rtV ⟨0, 0⟩, .int .i64 (believeE b s [x])]) ?_ rfl ⟨by rw [HR.out], (B9.setCell (by show w.heap.size ≤ w.heap.size + 1 + 1; omega) _).setCell (by show w.heap.size ≤ w.heap.size + 1 + 1; omega) _⟩
        simp [rtV, results, Try.results34, go_sem, HP.out.1, HP.out.2]
    · go_simp
      have nB := heap_alloc_new W3 (.cells #[.int .i64 0, .int .i64 0, .map none, .int .i64 0] 128)
      have aB := below_alloc W3 (.cells #[.int .i64 0, .int .i64 0, .map none, .int .i64 0] 128)
      have hBn : W2.heap.size ≤ W3.heap.size := G3.size
      refine ⟨aB, fun W4 hu => ?_⟩
      replace nB := (hu.block _ (size_of_block nB)).trans nB
      have G4 := below_then G3 (below_then aB hu)
      clear hu aB
      go_simp
      have nS := heap_alloc_new W4 (.cells #[.int .i64 x] 25)
      have aS := below_alloc W4 (.cells #[.int .i64 x] 25)
      refine ⟨aS, fun W5 hu => ?_⟩
      replace nS := (hu.block _ (size_of_block nS)).trans nS
      replace nB := ((below_then aS hu).block _ (size_of_block nB)).trans nB
      have G5 := below_then G4 (below_then aS hu)
      clear hu aS
      go_simp
      refine (believed_c b s [x] _ _ (ints1 nS)).mono ?_
      rintro e W6 ⟨hp, hb⟩
      unfold BelPost at hp
      rw [if_neg hE.out] at hp
      subst hp
      refine ⟨hb, fun W7 hu => ?_⟩
      replace hb := below_then hb hu
      replace nS := (hb.block _ (size_of_block nS)).trans nS
      replace nB := (hb.block _ (size_of_block nB)).trans nB
      have G7 := below_then G5 hb
      clear hb hu
      refine ⟨_, fun _ => rfl, ?_⟩
      go_simp
      have f0 := Joins.unfrozen_of_block nB 0
      have f1 := Joins.unfrozen_of_block nB 1
      have f2 := Joins.unfrozen_of_block nB 2
      have f3 := Joins.unfrozen_of_block nB 3
      have g0 := Joins.cell_of_block nB 0
      have g1 := Joins.cell_of_block nB 1
      have g2 := Joins.cell_of_block nB 2
      have g3 := Joins.cell_of_block nB 3
      have hz := size_of_block nB
      have m9 := put4 (.int .i64 0) (.int .i64 0) (.map none) (.int .i64 0) nB
      have BS : Below W3.heap.size W7 ((((W7.setCell ⟨W3.heap.size, 0, none⟩ (.int .i64 0)).setCell ⟨W3.heap.size, 1, none⟩ (.int .i64 0)).setCell ⟨W3.heap.size, 2, none⟩ (.map none)).setCell ⟨W3.heap.size, 3, none⟩ (.int .i64 0)) := ((((Below.refl _ _).setCell (by simp) _).setCell (by simp) _).setCell (by simp) _).setCell (by simp) _
      replace q1 := (BS.block _ (show w.heap.size + 1 < W3.heap.size by omega)).trans ((G7.block _ z1).trans q1)
      replace q2 := (BS.block _ (show w.heap.size + 1 + 1 < W3.heap.size by omega)).trans ((G7.block _ z2).trans q2)
      have hB2 := B2.size
      have B9 : Below w.heap.size w ((((W7.setCell ⟨W3.heap.size, 0, none⟩ (.int .i64 0)).setCell ⟨W3.heap.size, 1, none⟩ (.int .i64 0)).setCell ⟨W3.heap.size, 2, none⟩ (.map none)).setCell ⟨W3.heap.size, 3, none⟩ (.int .i64 0)) := ((((below_then B2 G7).setCell (by simp; omega) _).setCell (by simp; omega) _).setCell (by simp; omega) _).setCell (by simp; omega) _
      have hd : (believeE b s [x] != 0) = true := by simpa using hE.out
      clear z0 z1 z2 nS BS q0 hB2 q1
      have r0 := Joins.cell_of_block q2 0
      have r1 := Joins.cell_of_block q2 1
      have k0 := Joins.unfrozen_of_block q2 0
      have k1 := Joins.unfrozen_of_block q2 1
      have zq := size_of_block q2
      have HP := Lib.hid (put2 (.int .i64 0) (.int .i64 0) q2)
      have HR := Lib.hid hR
      clear hR
      clear q2
      go_wp2_with fail
      generalize (((W7.setCell ⟨W3.heap.size, 0, none⟩ (.int .i64 0)).setCell ⟨W3.heap.size, 1, none⟩ (.int .i64 0)).setCell ⟨W3.heap.size, 2, none⟩ (.map none)).setCell ⟨W3.heap.size, 3, none⟩ (.int .i64 0) = W9 at m9 B9 HP r0 r1 k0 k1 zq ⊢
      refine bodyPost_ret (v := .tuple #[rtV ⟨0, 0⟩, .int .i64 (believeE b s [x])]) ?_ rfl ⟨by rw [HR.out], (B9.setCell (by show w.heap.size ≤ w.heap.size + 1 + 1; omega) _).setCell (by show w.heap.size ≤ w.heap.size + 1 + 1; omega) _⟩
      simp [rtV, results, Try.results34, go_sem, HP.out.1, HP.out.2]
end Go.Proofs.Ytaaeipjnhjgjdaa
