/- Texts joined: 3ProgAD. -/
import Derived.Test.YtaaeipjnhjgjdaaJ18
import Derived.Test.YtaaeipjnhjgjdaaJ14
import Derived.Laws.EntriesVeiled
/- The chance that a plan of two samples accepts, by package sample. -/
namespace Go.Proofs.Ytaaeipjnhjgjdaa
open Go Go.RowKit Go.Shelf

attribute [local go_sem] Rel RelAt RelUpon
theorem tw_all {n m : Int} {d : Db} (h0 : 0 ≤ m) (h1 : m ≤ n) (h2 : n ≤ 36) (f0 : 0 ≤ d.first) (f1 : d.first ≤ n) (s0 : 0 ≤ d.second) (ha : d.accept < d.refuse) :
    (∀ pre, pre <+: numsL (foundLo n m d.first) (foundHi m d.first) → 0 ≤ sumL (fun x => hit n m d.first x.toNat * atMostI (n - d.first) (m - x) d.second (furtherI d x)) pre ∧ sumL (fun x => hit n m d.first x.toNat * atMostI (n - d.first) (m - x) d.second (furtherI d x)) pre ≤ 4611686018427387904) ∧
    sumL (fun x => hit n m d.first x.toNat * atMostI (n - d.first) (m - x) d.second (furtherI d x)) (numsL (foundLo n m d.first) (foundHi m d.first)) = sumI (twT n m d) (d.first + 1).toNat ∧
    (∀ x, foundLo n m d.first ≤ x → x ≤ foundHi m d.first → 0 ≤ hit n m d.first x.toNat * atMostI (n - d.first) (m - x) d.second (furtherI d x) ∧ hit n m d.first x.toNat * atMostI (n - d.first) (m - x) d.second (furtherI d x) ≤ 4611686018427387904) := by
  have e1 : sumL (fun x => hit n m d.first x.toNat * atMostI (n - d.first) (m - x) d.second (furtherI d x)) (numsL (foundLo n m d.first) (foundHi m d.first)) = sumI (twT n m d) (d.first + 1).toNat := by
    rw [← twice_sum (d := d) h0 h1 f0]
    refine sumL_congr fun x hx => twT_eq h0 h1 s0 ha ?_
    have := (mem_nums.1 hx).1
    unfold foundLo at this
    omega
  have nn : ∀ x ∈ numsL (foundLo n m d.first) (foundHi m d.first), 0 ≤ hit n m d.first x.toNat * atMostI (n - d.first) (m - x) d.second (furtherI d x) := fun x hx => by
    have h := (mem_nums.1 hx).1
    unfold foundLo at h
    rw [twT_eq h0 h1 s0 ha (by omega)]
    exact (twT_le h0 h1 s0).1
  have tl := twice_le (n := n) (m := m) (d := d) h0 h1 s0 f0 (j := (d.first + 1).toNat) (by omega)
  have c2 := choose_two (n := n) (a := d.first) (b := d.second) f0 f1 h2
  have pr : ∀ pre, pre <+: numsL (foundLo n m d.first) (foundHi m d.first) → 0 ≤ sumL (fun x => hit n m d.first x.toNat * atMostI (n - d.first) (m - x) d.second (furtherI d x)) pre ∧ sumL (fun x => hit n m d.first x.toNat * atMostI (n - d.first) (m - x) d.second (furtherI d x)) pre ≤ 4611686018427387904 := fun pre hp => by
    have := sumL_prefix hp nn
    omega
  refine ⟨pr, e1, fun x hx1 hx2 => ?_⟩
  have hx := mem_nums.2 ⟨hx1, hx2⟩
  refine ⟨nn x hx, ?_⟩
  obtain ⟨s, t, hst⟩ := List.append_of_mem hx
  have k1 := pr (s ++ [x]) ⟨t, by rw [hst]; simp⟩
  have k2 := pr s ⟨x :: t, hst.symm⟩
  rw [sumL_append, sumL_cons, sumL_nil] at k1
  omega
theorem wpSet_succ {P : Program} {ops : Array Oper} {Q : Exit → Act → World → Prop} {E : Act → World → Prop} {f : Nat} {R : List Nat} {a : Act} {w : World}
    (h : ∀ k ∈ R, ∃ o, ops[k]? = some o ∧ o.guard = none ∧ o.wp P a w (Boxed w (wpSet P ops Q E f (R.erase k))) Q) : wpSet P ops Q E (f + 1) R a w := h
set_option maxRecDepth 100000 in
set_option maxHeartbeats 4000000 in
theorem PassTwice_c (n m : Int) (d : Db) (w : World) : Calls Try.prog 58 #[.int .i64 n, .int .i64 m, dbV d] w fun e w' => e = .returned (.tuple #[rtV (twiceR n m d).1, .int .i64 (twiceR n m d).2]) ∧ Below w.heap.size w w' := by
  obtain ⟨q0, q1, q2, qs, qb⟩ := three_new w (.cells #[.int .i64 m] 3) (.cells #[.int .i64 d.first, .int .i64 d.accept, .int .i64 d.refuse, .int .i64 d.second, .int .i64 d.together] 92) (.cells #[.int .i64 0, .int .i64 0] 53)
  have HE := Lib.hid (double_eq (n := n) (m := m) (d := d))
  unfold dbV
  rcases Bool.eq_false_or_eq_true (inI n 1 36 && inI m 0 n) with hb | hb
  · have HB := Lib.hid hb
    rw [Bool.and_eq_true] at hb
    obtain ⟨n1, n2⟩ := hb
    replace n1 := inI_spec n1
    replace n2 := inI_spec n2
    have HN := Lib.hid n1
    have HM := Lib.hid n2
    clear n1 n2
    rcases Bool.eq_false_or_eq_true (doubleB d n) with hd | hd
    · have HD := Lib.hid hd
      have HDD := Lib.hid (show (0 ≤ d.first ∧ d.first ≤ n) ∧ (0 ≤ d.second ∧ d.second ≤ n - d.first) ∧ (1 ≤ d.refuse ∧ d.refuse ≤ d.first + 1) ∧ (0 ≤ d.accept ∧ d.accept ≤ d.refuse - 1) ∧ (d.accept ≤ d.together ∧ d.together ≤ d.first + d.second) by simpa [doubleB, inI] using hd)
      clear hd
      go_enter Try.func58, Try.ntmps58
      go_wp2_with fail
      have QS := Lib.hid qs
      clear qs
      generalize ((w.alloc _).alloc _).alloc _ = W1 at q0 q1 q2 QS qb ⊢
      have e0 := Joins.cell_of_block q0 0
      have z0 := size_of_block q0
      have z1 := size_of_block q1
      have z2 := size_of_block q2
      have g0 := Joins.cell_of_block q1 0
      have g1 := Joins.cell_of_block q1 1
      have g2 := Joins.cell_of_block q1 2
      have g3 := Joins.cell_of_block q1 3
      have g4 := Joins.cell_of_block q1 4
      go_wp2_with fail
      refine (badP_c _ _ _ _).mono ?_
      rintro e w' ⟨rfl, rfl⟩
      rw [HB.out]
      go_wp2_with fail
      have ID := isDouble_c d n W1 HN.out.1 HN.out.2
      unfold dbV at ID
      refine ID.mono ?_
      clear ID
      rintro e W2 ⟨rfl, hb2⟩
      rw [HD.out]
      replace q0 := (hb2.block _ z0).trans q0
      replace q1 := (hb2.block _ z1).trans q1
      replace q2 := (hb2.block _ z2).trans q2
      replace z0 := size_of_block q0
      replace z1 := size_of_block q1
      replace z2 := size_of_block q2
      have BB := below_then qb hb2
      clear qb hb2 e0 g0 g1 g2 g3 g4
      have e0 := Joins.cell_of_block q0 0
      have g0 := Joins.cell_of_block q1 0
      go_wp2_with fail
      refine wp_region_planD [0, 1, 2, 3, 5, 6, 7, 8] [4, 9, 10] [11, 12] (by kernel_rfl) (by kernel_rfl) (by intro c a d v w h; cases d <;> exact h) fun W3 hb3 => ?_
      replace q0 := (hb3.block _ z0).trans q0
      replace q1 := (hb3.block _ z1).trans q1
      replace q2 := (hb3.block _ z2).trans q2
      replace z0 := size_of_block q0
      replace z1 := size_of_block q1
      replace z2 := size_of_block q2
      replace BB := below_then BB hb3
      clear hb3 e0 g0
      have e0 := Joins.cell_of_block q0 0
      have g0 := Joins.cell_of_block q1 0
      obtain ⟨m1, m2⟩ := HM.out
      obtain ⟨nn1, nn2⟩ := HN.out
      obtain ⟨⟨d1, d2⟩, ⟨d3, d4⟩, ⟨d5, d6⟩, ⟨d7, d8⟩, d9, d10⟩ := HDD.out
      simp only [pick, List.filterMap_cons, List.filterMap_nil, List.getElem?_toArray, List.getElem?_cons_succ, List.getElem?_cons_zero, wpFree]
      have HWR := Lib.hid (show IntKind.i64.wrap (n - d.first) = n - d.first from IntWalk.i64_in _ ⟨by omega, by omega⟩)
      refine ⟨trivial, .int .i64 n, fun _ _ => rfl, ?_⟩
      refine ⟨trivial, .int .i64 m, fun u hu => (by have c := (hu.cell (p := ⟨w.heap.size, 0, none⟩) z0).trans e0; go_simp), ?_⟩
      refine ⟨trivial, .pointer (some ⟨w.heap.size + 1, 0, none⟩), fun _ _ => rfl, ?_⟩
      refine ⟨trivial, .int .i64 d.first, fun u hu => (by have c := (hu.cell (p := ⟨w.heap.size + 1, 0, none⟩) z1).trans g0; go_simp), ?_⟩
      refine ⟨trivial, .int .i64 n, fun _ _ => rfl, ?_⟩
      refine ⟨trivial, .pointer (some ⟨w.heap.size + 1, 0, none⟩), fun _ _ => rfl, ?_⟩
      refine ⟨trivial, .int .i64 d.first, fun u hu => (by have c := (hu.cell (p := ⟨w.heap.size + 1, 0, none⟩) z1).trans g0; go_simp), ?_⟩
      refine ⟨trivial, .int .i64 (n - d.first), fun _ _ => (by go_simp; rw [HWR.out]), ?_⟩
      have G3 := Below.refl W3.heap.size W3
      clear e0 g0
      refine wpSet_succ fun k hk => ?_
      obtain rfl | rfl | rfl := (by simpa using hk : k = 4 ∨ k = 9 ∨ k = 10)
      · refine ⟨_, rfl, rfl, ?_⟩
        clear hk
        go_simp
        refine (justly_c n m d.first _).mono ?_
        rintro e W0 ⟨rfl, rfl⟩
        obtain ⟨p0, p1, p2, ps, pb⟩ := three_new W3 (.cells #[.int .i64 n] 3) (.cells #[.int .i64 m] 3) (.cells #[.int .i64 d.first] 3)
        clear ps
        generalize ((W3.alloc _).alloc _).alloc _ = W0 at p0 p1 p2 pb ⊢
        refine ⟨pb, fun W4 hu => ?_⟩
        have hb := below_then pb hu
        replace p0 := (hu.block _ (size_of_block p0)).trans p0
        replace p1 := (hu.block _ (size_of_block p1)).trans p1
        replace p2 := (hu.block _ (size_of_block p2)).trans p2
        have G4 := below_then G3 hb
        have zs3 := Lib.hid (show W3.heap.size + 3 ≤ W4.heap.size by have := size_of_block p2; omega)
        clear hu pb hb
        refine wpSet_succ fun k hk => ?_
        obtain rfl | rfl := (by simpa using hk : k = 9 ∨ k = 10)
        · refine ⟨_, rfl, rfl, ?_⟩
          clear hk
          go_simp
          have nF := heap_alloc_new W4 (.cells #[.nilFunc] 134)
          have aa := below_alloc W4 (.cells #[.nilFunc] 134)
          refine ⟨aa, fun W5 hu => ?_⟩
          have hb := below_then aa hu
          replace nF := (hu.block _ (size_of_block nF)).trans nF
          replace p0 := (hb.block _ (size_of_block p0)).trans p0
          replace p1 := (hb.block _ (size_of_block p1)).trans p1
          replace p2 := (hb.block _ (size_of_block p2)).trans p2
          have G5 := below_then G4 hb
          have zs4 := Lib.hid (show W4.heap.size + 1 ≤ W5.heap.size from size_of_block nF)
          clear hu aa hb
          refine wpSet_succ fun k hk => ?_
          obtain rfl := (by simpa using hk : k = 10)
          · refine ⟨_, rfl, rfl, ?_⟩
            clear hk
            go_simp
            have nI := heap_alloc_new W5 (.cells #[.int .i64 0] 3)
            have aa := below_alloc W5 (.cells #[.int .i64 0] 3)
            refine ⟨aa, fun W6 hu => ?_⟩
            have hb := below_then aa hu
            replace nI := (hu.block _ (size_of_block nI)).trans nI
            replace p0 := (hb.block _ (size_of_block p0)).trans p0
            replace p1 := (hb.block _ (size_of_block p1)).trans p1
            replace p2 := (hb.block _ (size_of_block p2)).trans p2
            replace nF := (hb.block _ (size_of_block nF)).trans nF
            have G6 := below_then G5 hb
            have zs5 := Lib.hid (show W5.heap.size + 1 ≤ W6.heap.size from size_of_block nI)
            clear hu aa hb
            have s3 := zs3.out
            have s4 := zs4.out
            have s5 := zs5.out
            have bf : W3.heap.size ≤ W4.heap.size := by omega
            have bi : W3.heap.size ≤ W5.heap.size := by omega
            have GA : Below W3.heap.size W3 (W6.setCell ⟨W4.heap.size, 0, none⟩ (.func (.func 145) #[] #[.pointer (some ⟨W3.heap.size + 1, 0, none⟩), .pointer (some ⟨W3.heap.size, 0, none⟩), .pointer (some ⟨W3.heap.size + 1 + 1, 0, none⟩)])) := G6.setCell (p := ⟨W4.heap.size, 0, none⟩) bf _
            have GB : Below W3.heap.size W3 ((W6.setCell ⟨W4.heap.size, 0, none⟩ (.func (.func 145) #[] #[.pointer (some ⟨W3.heap.size + 1, 0, none⟩), .pointer (some ⟨W3.heap.size, 0, none⟩), .pointer (some ⟨W3.heap.size + 1 + 1, 0, none⟩)])).setCell ⟨W5.heap.size, 0, none⟩ (.int .i64 (n - d.first))) := GA.setCell (p := ⟨W5.heap.size, 0, none⟩) bi _
            have nF2 := Joins.block_setCell (i := 0) nF (.func (.func 145) #[] #[.pointer (some ⟨W3.heap.size + 1, 0, none⟩), .pointer (some ⟨W3.heap.size, 0, none⟩), .pointer (some ⟨W3.heap.size + 1 + 1, 0, none⟩)])
            have nI2 := (Below.heap_setCell W6 ⟨W4.heap.size, 0, none⟩ (.func (.func 145) #[] #[.pointer (some ⟨W3.heap.size + 1, 0, none⟩), .pointer (some ⟨W3.heap.size, 0, none⟩), .pointer (some ⟨W3.heap.size + 1 + 1, 0, none⟩)]) (W5.heap.size) (show W5.heap.size ≠ W4.heap.size by omega)).trans nI
            have nF3 := (Below.heap_setCell (W6.setCell ⟨W4.heap.size, 0, none⟩ (.func (.func 145) #[] #[.pointer (some ⟨W3.heap.size + 1, 0, none⟩), .pointer (some ⟨W3.heap.size, 0, none⟩), .pointer (some ⟨W3.heap.size + 1 + 1, 0, none⟩)])) ⟨W5.heap.size, 0, none⟩ (.int .i64 (n - d.first)) (W4.heap.size) (show W4.heap.size ≠ W5.heap.size by omega)).trans nF2
            have nI3 := Joins.block_setCell (i := 0) nI2 (.int .i64 (n - d.first))
            replace p0 := (Below.heap_setCell (W6.setCell ⟨W4.heap.size, 0, none⟩ (.func (.func 145) #[] #[.pointer (some ⟨W3.heap.size + 1, 0, none⟩), .pointer (some ⟨W3.heap.size, 0, none⟩), .pointer (some ⟨W3.heap.size + 1 + 1, 0, none⟩)])) ⟨W5.heap.size, 0, none⟩ (.int .i64 (n - d.first)) (W3.heap.size) (show W3.heap.size ≠ W5.heap.size by omega)).trans ((Below.heap_setCell W6 ⟨W4.heap.size, 0, none⟩ (.func (.func 145) #[] #[.pointer (some ⟨W3.heap.size + 1, 0, none⟩), .pointer (some ⟨W3.heap.size, 0, none⟩), .pointer (some ⟨W3.heap.size + 1 + 1, 0, none⟩)]) (W3.heap.size) (show W3.heap.size ≠ W4.heap.size by omega)).trans p0)
            replace p1 := (Below.heap_setCell (W6.setCell ⟨W4.heap.size, 0, none⟩ (.func (.func 145) #[] #[.pointer (some ⟨W3.heap.size + 1, 0, none⟩), .pointer (some ⟨W3.heap.size, 0, none⟩), .pointer (some ⟨W3.heap.size + 1 + 1, 0, none⟩)])) ⟨W5.heap.size, 0, none⟩ (.int .i64 (n - d.first)) (W3.heap.size + 1) (show W3.heap.size + 1 ≠ W5.heap.size by omega)).trans ((Below.heap_setCell W6 ⟨W4.heap.size, 0, none⟩ (.func (.func 145) #[] #[.pointer (some ⟨W3.heap.size + 1, 0, none⟩), .pointer (some ⟨W3.heap.size, 0, none⟩), .pointer (some ⟨W3.heap.size + 1 + 1, 0, none⟩)]) (W3.heap.size + 1) (show W3.heap.size + 1 ≠ W4.heap.size by omega)).trans p1)
            replace p2 := (Below.heap_setCell (W6.setCell ⟨W4.heap.size, 0, none⟩ (.func (.func 145) #[] #[.pointer (some ⟨W3.heap.size + 1, 0, none⟩), .pointer (some ⟨W3.heap.size, 0, none⟩), .pointer (some ⟨W3.heap.size + 1 + 1, 0, none⟩)])) ⟨W5.heap.size, 0, none⟩ (.int .i64 (n - d.first)) (W3.heap.size + 1 + 1) (show W3.heap.size + 1 + 1 ≠ W5.heap.size by omega)).trans ((Below.heap_setCell W6 ⟨W4.heap.size, 0, none⟩ (.func (.func 145) #[] #[.pointer (some ⟨W3.heap.size + 1, 0, none⟩), .pointer (some ⟨W3.heap.size, 0, none⟩), .pointer (some ⟨W3.heap.size + 1 + 1, 0, none⟩)]) (W3.heap.size + 1 + 1) (show W3.heap.size + 1 + 1 ≠ W4.heap.size by omega)).trans p2)
            replace q0 := (GB.block _ z0).trans q0
            replace q1 := (GB.block _ z1).trans q1
            replace q2 := (GB.block _ z2).trans q2
            replace BB := below_then BB GB
            have f0 := Joins.unfrozen_of_block nF 0
            have f1 := Joins.unfrozen_of_block nI2 0
            have i0 := Joins.cell_of_block nF 0
            have i1 := Joins.cell_of_block nI2 0
            have y0 := size_of_block nF
            have y1 := size_of_block nI2
            clear s3 s4 s5 zs3 zs4 zs5 bf bi nF nF2 nI nI2 G3 G4 G5 G6 z0 z1 z2
            have HGA := Lib.hid GA
            have HGB := Lib.hid GB
            clear GA GB
            refine ⟨rfl, ?_⟩
            go_simp
            refine ⟨HGA.out, ?_⟩
            refine ⟨rfl, ?_⟩
            go_simp
            refine ⟨HGB.out, ?_⟩
            clear f0 f1 i0 i1 y0 y1 HGA HGB
            have zq := size_of_block q0
            have z2' := size_of_block q1
            have e0 := Joins.cell_of_block q0 0
            have g0 := Joins.cell_of_block q1 0
            generalize (W6.setCell ⟨W4.heap.size, 0, none⟩ (.func (.func 145) #[] #[.pointer (some ⟨W3.heap.size + 1, 0, none⟩), .pointer (some ⟨W3.heap.size, 0, none⟩), .pointer (some ⟨W3.heap.size + 1 + 1, 0, none⟩)])).setCell ⟨W5.heap.size, 0, none⟩ (.int .i64 (n - d.first)) = W7 at q0 q1 q2 p0 p1 p2 nF3 nI3 BB zq z2' e0 g0 ⊢
            unfold wpEnds
            go_wp2_with fail
            refine (found_c n m d.first _ m1 m2 (by omega) d1 d2).mono ?_
            rintro e W8 ⟨rfl, hb8⟩
            replace q0 := (hb8.block _ (size_of_block q0)).trans q0
            replace q1 := (hb8.block _ (size_of_block q1)).trans q1
            replace q2 := (hb8.block _ (size_of_block q2)).trans q2
            replace p0 := (hb8.block _ (size_of_block p0)).trans p0
            replace p1 := (hb8.block _ (size_of_block p1)).trans p1
            replace p2 := (hb8.block _ (size_of_block p2)).trans p2
            replace nF3 := (hb8.block _ (size_of_block nF3)).trans nF3
            replace nI3 := (hb8.block _ (size_of_block nI3)).trans nI3
            replace BB := below_then BB hb8
            clear hb8 zq z2' e0 g0
            go_wp2_with fail
            refine (numbers_c ⟨foundLo n m d.first, foundHi m d.first⟩ _).mono ?_
            rintro e W9 ⟨rfl, rfl⟩
            have hb9 := below_alloc W8 (.cells #[.int .i64 (foundLo n m d.first), .int .i64 (foundHi m d.first)] 31)
            have sp := heap_alloc_new W8 (.cells #[.int .i64 (foundLo n m d.first), .int .i64 (foundHi m d.first)] 31)
            generalize hw8 : W8.heap.size = s8 at *
            simp only
            generalize W8.alloc (.cells #[.int .i64 (foundLo n m d.first), .int .i64 (foundHi m d.first)] 31) = W9 at sp hb9 ⊢
            subst hw8
            replace q0 := (hb9.block _ (size_of_block q0)).trans q0
            replace q1 := (hb9.block _ (size_of_block q1)).trans q1
            replace q2 := (hb9.block _ (size_of_block q2)).trans q2
            replace p0 := (hb9.block _ (size_of_block p0)).trans p0
            replace p1 := (hb9.block _ (size_of_block p1)).trans p1
            replace p2 := (hb9.block _ (size_of_block p2)).trans p2
            replace nF3 := (hb9.block _ (size_of_block nF3)).trans nF3
            replace nI3 := (hb9.block _ (size_of_block nI3)).trans nI3
            replace BB := below_then BB hb9
            clear hb9
            have TW := tw_all (d := d) m1 m2 nn2 d1 d2 d3 (show d.accept < d.refuse by omega)
            have hG : Gives Try.prog W9.heap.size 0 [] _ encI (numsL (foundLo n m d.first) (foundHi m d.first)) W9 := numbers_g (s := ⟨foundLo n m d.first, foundHi m d.first⟩) (size_of_block sp) (by simp only [foundLo]; omega) (by simp only [foundHi]; omega) sp
            have hJ := justly_t (w := W9) (n := n) (m := m) (t := d.first) m1 m2 (by omega) d1 (Joins.cell_of_block p0 0) (Joins.cell_of_block p1 0) (Joins.cell_of_block p2 0) (lo := foundLo n m d.first) (hi := foundHi m d.first) (by unfold foundLo; omega) (by unfold foundHi; omega) (by omega) (size_of_block p0) (size_of_block p1) (size_of_block p2)
            have hT := twice1_t (d := d) m1 m2 nn2 d1 d3 d4 (by omega) (by omega) hJ nF3 nI3 q0 q1 TW.2.2
            go_wp2_with fail
            refine (total_c _ _ W9.heap.size _ _ W9 hG (Nat.le_refl _) hT (fun pre hp => by have := TW.1 pre hp; omega)).mono ?_
            rintro e W10 ⟨rfl, hb10⟩
            rw [TW.2.1]
            replace q0 := (hb10.block _ (size_of_block q0)).trans q0
            replace q1 := (hb10.block _ (size_of_block q1)).trans q1
            replace q2 := (hb10.block _ (size_of_block q2)).trans q2
            replace p0 := (hb10.block _ (size_of_block p0)).trans p0
            replace p1 := (hb10.block _ (size_of_block p1)).trans p1
            replace p2 := (hb10.block _ (size_of_block p2)).trans p2
            replace nF3 := (hb10.block _ (size_of_block nF3)).trans nF3
            replace nI3 := (hb10.block _ (size_of_block nI3)).trans nI3
            replace BB := below_then BB hb10
            clear hb10 hG hJ hT p0 p1 p2 nF3 sp TW
            have tl := twice_le (n := n) (m := m) (d := d) m1 m2 d3 d1 (j := (d.first + 1).toNat) (by omega)
            obtain ⟨tl1, tl2⟩ := tl
            have c2 := choose_two (n := n) (a := d.first) (b := d.second) d1 d2 nn2
            have c3 := chooseI_pos (n := n) (k := d.first) d2
            have c4 := chooseI_pos (n := n - d.first) (k := d.second) d4
            have c5 : 0 < chooseI n d.first * chooseI (n - d.first) d.second := Int.mul_pos (by omega) (by omega)
            have c6 := chooseI_le (n := n - d.first) d.second (by omega)
            have c7 := chooseI_le (n := n) d.first (by omega)
            have HTW := Lib.hid (show twiceR n m d = (ratioI (sumI (twT n m d) (d.first + 1).toNat) (chooseI n d.first * chooseI (n - d.first) d.second), 0) by unfold twiceR; rw [if_pos]; rw [HE.out, HB.out, HD.out]; rfl)
            generalize hS : sumI (twT n m d) (d.first + 1).toNat = S at *
            go_wp2_with fail
            have u0 : W10.cell? ⟨w.heap.size + 1, 0, none⟩ = some (.int .i64 d.first) := Joins.cell_of_block q1 0
            have u3 : W10.cell? ⟨w.heap.size + 1, 3, none⟩ = some (.int .i64 d.second) := Joins.cell_of_block q1 3
            have uI : W10.cell? ⟨W5.heap.size, 0, none⟩ = some (.int .i64 (n - d.first)) := Joins.cell_of_block nI3 0
            have zq1 := size_of_block q1
            have zI := size_of_block nI3
            refine wp_region_grown_tail 12 (by kernel_rfl) (by kernel_rfl) fun hcg => ?_
            simp only [List.take_succ_cons, List.take_zero, List.drop_succ_cons, List.drop_zero]
            repeat (go_big_quiet_step (first | (go_at_call 75; exact Calls.grown (chooseP_b _ (by omega) (by omega) (by omega) (by omega))) | (go_at_call 97; exact Calls.grown (ratioP_c S _ _ tl1 c5 (by omega) (by omega)))))
            refine wpQuiet_nil ?_
            intro _ hw'
            obtain ⟨g, hw''⟩ := hw'
            subst hw''
            have hyg := (g.b.block _ (size_of_block q2)).trans q2
            have hBg := below_then BB g.b
            have f0 := Joins.unfrozen_of_block hyg 0
            have f1 := Joins.unfrozen_of_block hyg 1
            have k0 := Joins.cell_of_block hyg 0
            have k1 := Joins.cell_of_block hyg 1
            have hz := size_of_block hyg
            have HP := Lib.hid (put2 (.int .i64 (ratioI S (chooseI n d.first * chooseI (n - d.first) d.second)).num) (.int .i64 (ratioI S (chooseI n d.first * chooseI (n - d.first) d.second)).den) hyg)
            go_wp2_with fail
            refine bodyPost_ret (v := .tuple #[rtV (ratioI S (chooseI n d.first * chooseI (n - d.first) d.second)), .int .i64 0]) ?_ rfl ⟨by rw [HTW.out], (hBg.setCell (by simp; omega) _).setCell (by simp; omega) _⟩
            simp [rtV, results, Try.results58, go_sem, HP.out.1, HP.out.2]
        · refine ⟨_, rfl, rfl, ?_⟩
          clear hk
          go_simp
          have nI := heap_alloc_new W4 (.cells #[.int .i64 0] 3)
          have aa := below_alloc W4 (.cells #[.int .i64 0] 3)
          refine ⟨aa, fun W5 hu => ?_⟩
          have hb := below_then aa hu
          replace nI := (hu.block _ (size_of_block nI)).trans nI
          replace p0 := (hb.block _ (size_of_block p0)).trans p0
          replace p1 := (hb.block _ (size_of_block p1)).trans p1
          replace p2 := (hb.block _ (size_of_block p2)).trans p2
          have G5 := below_then G4 hb
          have zs4 := Lib.hid (show W4.heap.size + 1 ≤ W5.heap.size from size_of_block nI)
          clear hu aa hb
          refine wpSet_succ fun k hk => ?_
          obtain rfl := (by simpa using hk : k = 9)
          · refine ⟨_, rfl, rfl, ?_⟩
            clear hk
            go_simp
            have nF := heap_alloc_new W5 (.cells #[.nilFunc] 134)
            have aa := below_alloc W5 (.cells #[.nilFunc] 134)
            refine ⟨aa, fun W6 hu => ?_⟩
            have hb := below_then aa hu
            replace nF := (hu.block _ (size_of_block nF)).trans nF
            replace p0 := (hb.block _ (size_of_block p0)).trans p0
            replace p1 := (hb.block _ (size_of_block p1)).trans p1
            replace p2 := (hb.block _ (size_of_block p2)).trans p2
            replace nI := (hb.block _ (size_of_block nI)).trans nI
            have G6 := below_then G5 hb
            have zs5 := Lib.hid (show W5.heap.size + 1 ≤ W6.heap.size from size_of_block nF)
            clear hu aa hb
            have s3 := zs3.out
            have s4 := zs4.out
            have s5 := zs5.out
            have bf : W3.heap.size ≤ W5.heap.size := by omega
            have bi : W3.heap.size ≤ W4.heap.size := by omega
            have GA : Below W3.heap.size W3 (W6.setCell ⟨W5.heap.size, 0, none⟩ (.func (.func 145) #[] #[.pointer (some ⟨W3.heap.size + 1, 0, none⟩), .pointer (some ⟨W3.heap.size, 0, none⟩), .pointer (some ⟨W3.heap.size + 1 + 1, 0, none⟩)])) := G6.setCell (p := ⟨W5.heap.size, 0, none⟩) bf _
            have GB : Below W3.heap.size W3 ((W6.setCell ⟨W5.heap.size, 0, none⟩ (.func (.func 145) #[] #[.pointer (some ⟨W3.heap.size + 1, 0, none⟩), .pointer (some ⟨W3.heap.size, 0, none⟩), .pointer (some ⟨W3.heap.size + 1 + 1, 0, none⟩)])).setCell ⟨W4.heap.size, 0, none⟩ (.int .i64 (n - d.first))) := GA.setCell (p := ⟨W4.heap.size, 0, none⟩) bi _
            have nF2 := Joins.block_setCell (i := 0) nF (.func (.func 145) #[] #[.pointer (some ⟨W3.heap.size + 1, 0, none⟩), .pointer (some ⟨W3.heap.size, 0, none⟩), .pointer (some ⟨W3.heap.size + 1 + 1, 0, none⟩)])
            have nI2 := (Below.heap_setCell W6 ⟨W5.heap.size, 0, none⟩ (.func (.func 145) #[] #[.pointer (some ⟨W3.heap.size + 1, 0, none⟩), .pointer (some ⟨W3.heap.size, 0, none⟩), .pointer (some ⟨W3.heap.size + 1 + 1, 0, none⟩)]) (W4.heap.size) (show W4.heap.size ≠ W5.heap.size by omega)).trans nI
            have nF3 := (Below.heap_setCell (W6.setCell ⟨W5.heap.size, 0, none⟩ (.func (.func 145) #[] #[.pointer (some ⟨W3.heap.size + 1, 0, none⟩), .pointer (some ⟨W3.heap.size, 0, none⟩), .pointer (some ⟨W3.heap.size + 1 + 1, 0, none⟩)])) ⟨W4.heap.size, 0, none⟩ (.int .i64 (n - d.first)) (W5.heap.size) (show W5.heap.size ≠ W4.heap.size by omega)).trans nF2
            have nI3 := Joins.block_setCell (i := 0) nI2 (.int .i64 (n - d.first))
            replace p0 := (Below.heap_setCell (W6.setCell ⟨W5.heap.size, 0, none⟩ (.func (.func 145) #[] #[.pointer (some ⟨W3.heap.size + 1, 0, none⟩), .pointer (some ⟨W3.heap.size, 0, none⟩), .pointer (some ⟨W3.heap.size + 1 + 1, 0, none⟩)])) ⟨W4.heap.size, 0, none⟩ (.int .i64 (n - d.first)) (W3.heap.size) (show W3.heap.size ≠ W4.heap.size by omega)).trans ((Below.heap_setCell W6 ⟨W5.heap.size, 0, none⟩ (.func (.func 145) #[] #[.pointer (some ⟨W3.heap.size + 1, 0, none⟩), .pointer (some ⟨W3.heap.size, 0, none⟩), .pointer (some ⟨W3.heap.size + 1 + 1, 0, none⟩)]) (W3.heap.size) (show W3.heap.size ≠ W5.heap.size by omega)).trans p0)
            replace p1 := (Below.heap_setCell (W6.setCell ⟨W5.heap.size, 0, none⟩ (.func (.func 145) #[] #[.pointer (some ⟨W3.heap.size + 1, 0, none⟩), .pointer (some ⟨W3.heap.size, 0, none⟩), .pointer (some ⟨W3.heap.size + 1 + 1, 0, none⟩)])) ⟨W4.heap.size, 0, none⟩ (.int .i64 (n - d.first)) (W3.heap.size + 1) (show W3.heap.size + 1 ≠ W4.heap.size by omega)).trans ((Below.heap_setCell W6 ⟨W5.heap.size, 0, none⟩ (.func (.func 145) #[] #[.pointer (some ⟨W3.heap.size + 1, 0, none⟩), .pointer (some ⟨W3.heap.size, 0, none⟩), .pointer (some ⟨W3.heap.size + 1 + 1, 0, none⟩)]) (W3.heap.size + 1) (show W3.heap.size + 1 ≠ W5.heap.size by omega)).trans p1)
            replace p2 := (Below.heap_setCell (W6.setCell ⟨W5.heap.size, 0, none⟩ (.func (.func 145) #[] #[.pointer (some ⟨W3.heap.size + 1, 0, none⟩), .pointer (some ⟨W3.heap.size, 0, none⟩), .pointer (some ⟨W3.heap.size + 1 + 1, 0, none⟩)])) ⟨W4.heap.size, 0, none⟩ (.int .i64 (n - d.first)) (W3.heap.size + 1 + 1) (show W3.heap.size + 1 + 1 ≠ W4.heap.size by omega)).trans ((Below.heap_setCell W6 ⟨W5.heap.size, 0, none⟩ (.func (.func 145) #[] #[.pointer (some ⟨W3.heap.size + 1, 0, none⟩), .pointer (some ⟨W3.heap.size, 0, none⟩), .pointer (some ⟨W3.heap.size + 1 + 1, 0, none⟩)]) (W3.heap.size + 1 + 1) (show W3.heap.size + 1 + 1 ≠ W5.heap.size by omega)).trans p2)
            replace q0 := (GB.block _ z0).trans q0
            replace q1 := (GB.block _ z1).trans q1
            replace q2 := (GB.block _ z2).trans q2
            replace BB := below_then BB GB
            have f0 := Joins.unfrozen_of_block nF 0
            have f1 := Joins.unfrozen_of_block nI2 0
            have i0 := Joins.cell_of_block nF 0
            have i1 := Joins.cell_of_block nI2 0
            have y0 := size_of_block nF
            have y1 := size_of_block nI2
            clear s3 s4 s5 zs3 zs4 zs5 bf bi nF nF2 nI nI2 G3 G4 G5 G6 z0 z1 z2
            have HGA := Lib.hid GA
            have HGB := Lib.hid GB
            clear GA GB
            refine ⟨rfl, ?_⟩
            go_simp
            refine ⟨HGA.out, ?_⟩
            refine ⟨rfl, ?_⟩
            go_simp
            refine ⟨HGB.out, ?_⟩
            clear f0 f1 i0 i1 y0 y1 HGA HGB
            have zq := size_of_block q0
            have z2' := size_of_block q1
            have e0 := Joins.cell_of_block q0 0
            have g0 := Joins.cell_of_block q1 0
            generalize (W6.setCell ⟨W5.heap.size, 0, none⟩ (.func (.func 145) #[] #[.pointer (some ⟨W3.heap.size + 1, 0, none⟩), .pointer (some ⟨W3.heap.size, 0, none⟩), .pointer (some ⟨W3.heap.size + 1 + 1, 0, none⟩)])).setCell ⟨W4.heap.size, 0, none⟩ (.int .i64 (n - d.first)) = W7 at q0 q1 q2 p0 p1 p2 nF3 nI3 BB zq z2' e0 g0 ⊢
            unfold wpEnds
            go_wp2_with fail
            refine (found_c n m d.first _ m1 m2 (by omega) d1 d2).mono ?_
            rintro e W8 ⟨rfl, hb8⟩
            replace q0 := (hb8.block _ (size_of_block q0)).trans q0
            replace q1 := (hb8.block _ (size_of_block q1)).trans q1
            replace q2 := (hb8.block _ (size_of_block q2)).trans q2
            replace p0 := (hb8.block _ (size_of_block p0)).trans p0
            replace p1 := (hb8.block _ (size_of_block p1)).trans p1
            replace p2 := (hb8.block _ (size_of_block p2)).trans p2
            replace nF3 := (hb8.block _ (size_of_block nF3)).trans nF3
            replace nI3 := (hb8.block _ (size_of_block nI3)).trans nI3
            replace BB := below_then BB hb8
            clear hb8 zq z2' e0 g0
            go_wp2_with fail
            refine (numbers_c ⟨foundLo n m d.first, foundHi m d.first⟩ _).mono ?_
            rintro e W9 ⟨rfl, rfl⟩
            have hb9 := below_alloc W8 (.cells #[.int .i64 (foundLo n m d.first), .int .i64 (foundHi m d.first)] 31)
            have sp := heap_alloc_new W8 (.cells #[.int .i64 (foundLo n m d.first), .int .i64 (foundHi m d.first)] 31)
            generalize hw8 : W8.heap.size = s8 at *
            simp only
            generalize W8.alloc (.cells #[.int .i64 (foundLo n m d.first), .int .i64 (foundHi m d.first)] 31) = W9 at sp hb9 ⊢
            subst hw8
            replace q0 := (hb9.block _ (size_of_block q0)).trans q0
            replace q1 := (hb9.block _ (size_of_block q1)).trans q1
            replace q2 := (hb9.block _ (size_of_block q2)).trans q2
            replace p0 := (hb9.block _ (size_of_block p0)).trans p0
            replace p1 := (hb9.block _ (size_of_block p1)).trans p1
            replace p2 := (hb9.block _ (size_of_block p2)).trans p2
            replace nF3 := (hb9.block _ (size_of_block nF3)).trans nF3
            replace nI3 := (hb9.block _ (size_of_block nI3)).trans nI3
            replace BB := below_then BB hb9
            clear hb9
            have TW := tw_all (d := d) m1 m2 nn2 d1 d2 d3 (show d.accept < d.refuse by omega)
            have hG : Gives Try.prog W9.heap.size 0 [] _ encI (numsL (foundLo n m d.first) (foundHi m d.first)) W9 := numbers_g (s := ⟨foundLo n m d.first, foundHi m d.first⟩) (size_of_block sp) (by simp only [foundLo]; omega) (by simp only [foundHi]; omega) sp
            have hJ := justly_t (w := W9) (n := n) (m := m) (t := d.first) m1 m2 (by omega) d1 (Joins.cell_of_block p0 0) (Joins.cell_of_block p1 0) (Joins.cell_of_block p2 0) (lo := foundLo n m d.first) (hi := foundHi m d.first) (by unfold foundLo; omega) (by unfold foundHi; omega) (by omega) (size_of_block p0) (size_of_block p1) (size_of_block p2)
            have hT := twice1_t (d := d) m1 m2 nn2 d1 d3 d4 (by omega) (by omega) hJ nF3 nI3 q0 q1 TW.2.2
            go_wp2_with fail
            refine (total_c _ _ W9.heap.size _ _ W9 hG (Nat.le_refl _) hT (fun pre hp => by have := TW.1 pre hp; omega)).mono ?_
            rintro e W10 ⟨rfl, hb10⟩
            rw [TW.2.1]
            replace q0 := (hb10.block _ (size_of_block q0)).trans q0
            replace q1 := (hb10.block _ (size_of_block q1)).trans q1
            replace q2 := (hb10.block _ (size_of_block q2)).trans q2
            replace p0 := (hb10.block _ (size_of_block p0)).trans p0
            replace p1 := (hb10.block _ (size_of_block p1)).trans p1
            replace p2 := (hb10.block _ (size_of_block p2)).trans p2
            replace nF3 := (hb10.block _ (size_of_block nF3)).trans nF3
            replace nI3 := (hb10.block _ (size_of_block nI3)).trans nI3
            replace BB := below_then BB hb10
            clear hb10 hG hJ hT p0 p1 p2 nF3 sp TW
            have tl := twice_le (n := n) (m := m) (d := d) m1 m2 d3 d1 (j := (d.first + 1).toNat) (by omega)
            obtain ⟨tl1, tl2⟩ := tl
            have c2 := choose_two (n := n) (a := d.first) (b := d.second) d1 d2 nn2
            have c3 := chooseI_pos (n := n) (k := d.first) d2
            have c4 := chooseI_pos (n := n - d.first) (k := d.second) d4
            have c5 : 0 < chooseI n d.first * chooseI (n - d.first) d.second := Int.mul_pos (by omega) (by omega)
            have c6 := chooseI_le (n := n - d.first) d.second (by omega)
            have c7 := chooseI_le (n := n) d.first (by omega)
            have HTW := Lib.hid (show twiceR n m d = (ratioI (sumI (twT n m d) (d.first + 1).toNat) (chooseI n d.first * chooseI (n - d.first) d.second), 0) by unfold twiceR; rw [if_pos]; rw [HE.out, HB.out, HD.out]; rfl)
            generalize hS : sumI (twT n m d) (d.first + 1).toNat = S at *
            go_wp2_with fail
            have u0 : W10.cell? ⟨w.heap.size + 1, 0, none⟩ = some (.int .i64 d.first) := Joins.cell_of_block q1 0
            have u3 : W10.cell? ⟨w.heap.size + 1, 3, none⟩ = some (.int .i64 d.second) := Joins.cell_of_block q1 3
            have uI : W10.cell? ⟨W4.heap.size, 0, none⟩ = some (.int .i64 (n - d.first)) := Joins.cell_of_block nI3 0
            have zq1 := size_of_block q1
            have zI := size_of_block nI3
            refine wp_region_grown_tail 12 (by kernel_rfl) (by kernel_rfl) fun hcg => ?_
            simp only [List.take_succ_cons, List.take_zero, List.drop_succ_cons, List.drop_zero]
            repeat (go_big_quiet_step (first | (go_at_call 75; exact Calls.grown (chooseP_b _ (by omega) (by omega) (by omega) (by omega))) | (go_at_call 97; exact Calls.grown (ratioP_c S _ _ tl1 c5 (by omega) (by omega)))))
            refine wpQuiet_nil ?_
            intro _ hw'
            obtain ⟨g, hw''⟩ := hw'
            subst hw''
            have hyg := (g.b.block _ (size_of_block q2)).trans q2
            have hBg := below_then BB g.b
            have f0 := Joins.unfrozen_of_block hyg 0
            have f1 := Joins.unfrozen_of_block hyg 1
            have k0 := Joins.cell_of_block hyg 0
            have k1 := Joins.cell_of_block hyg 1
            have hz := size_of_block hyg
            have HP := Lib.hid (put2 (.int .i64 (ratioI S (chooseI n d.first * chooseI (n - d.first) d.second)).num) (.int .i64 (ratioI S (chooseI n d.first * chooseI (n - d.first) d.second)).den) hyg)
            go_wp2_with fail
            refine bodyPost_ret (v := .tuple #[rtV (ratioI S (chooseI n d.first * chooseI (n - d.first) d.second)), .int .i64 0]) ?_ rfl ⟨by rw [HTW.out], (hBg.setCell (by simp; omega) _).setCell (by simp; omega) _⟩
            simp [rtV, results, Try.results58, go_sem, HP.out.1, HP.out.2]
      · refine ⟨_, rfl, rfl, ?_⟩
        clear hk
        go_simp
        have nF := heap_alloc_new W3 (.cells #[.nilFunc] 134)
        have aa := below_alloc W3 (.cells #[.nilFunc] 134)
        refine ⟨aa, fun W4 hu => ?_⟩
        have hb := below_then aa hu
        replace nF := (hu.block _ (size_of_block nF)).trans nF
        have G4 := below_then G3 hb
        have zs3 := Lib.hid (show W3.heap.size + 1 ≤ W4.heap.size from size_of_block nF)
        clear hu aa hb
        refine wpSet_succ fun k hk => ?_
        obtain rfl | rfl := (by simpa using hk : k = 4 ∨ k = 10)
        · refine ⟨_, rfl, rfl, ?_⟩
          clear hk
          go_simp
          refine (justly_c n m d.first _).mono ?_
          rintro e W0 ⟨rfl, rfl⟩
          obtain ⟨p0, p1, p2, ps, pb⟩ := three_new W4 (.cells #[.int .i64 n] 3) (.cells #[.int .i64 m] 3) (.cells #[.int .i64 d.first] 3)
          clear ps
          generalize ((W4.alloc _).alloc _).alloc _ = W0 at p0 p1 p2 pb ⊢
          refine ⟨pb, fun W5 hu => ?_⟩
          have hb := below_then pb hu
          replace p0 := (hu.block _ (size_of_block p0)).trans p0
          replace p1 := (hu.block _ (size_of_block p1)).trans p1
          replace p2 := (hu.block _ (size_of_block p2)).trans p2
          replace nF := (hb.block _ (size_of_block nF)).trans nF
          have G5 := below_then G4 hb
          have zs4 := Lib.hid (show W4.heap.size + 3 ≤ W5.heap.size by have := size_of_block p2; omega)
          clear hu pb hb
          refine wpSet_succ fun k hk => ?_
          obtain rfl := (by simpa using hk : k = 10)
          · refine ⟨_, rfl, rfl, ?_⟩
            clear hk
            go_simp
            have nI := heap_alloc_new W5 (.cells #[.int .i64 0] 3)
            have aa := below_alloc W5 (.cells #[.int .i64 0] 3)
            refine ⟨aa, fun W6 hu => ?_⟩
            have hb := below_then aa hu
            replace nI := (hu.block _ (size_of_block nI)).trans nI
            replace nF := (hb.block _ (size_of_block nF)).trans nF
            replace p0 := (hb.block _ (size_of_block p0)).trans p0
            replace p1 := (hb.block _ (size_of_block p1)).trans p1
            replace p2 := (hb.block _ (size_of_block p2)).trans p2
            have G6 := below_then G5 hb
            have zs5 := Lib.hid (show W5.heap.size + 1 ≤ W6.heap.size from size_of_block nI)
            clear hu aa hb
            have s3 := zs3.out
            have s4 := zs4.out
            have s5 := zs5.out
            have bf : W3.heap.size ≤ W3.heap.size := by omega
            have bi : W3.heap.size ≤ W5.heap.size := by omega
            have GA : Below W3.heap.size W3 (W6.setCell ⟨W3.heap.size, 0, none⟩ (.func (.func 145) #[] #[.pointer (some ⟨W4.heap.size + 1, 0, none⟩), .pointer (some ⟨W4.heap.size, 0, none⟩), .pointer (some ⟨W4.heap.size + 1 + 1, 0, none⟩)])) := G6.setCell (p := ⟨W3.heap.size, 0, none⟩) bf _
            have GB : Below W3.heap.size W3 ((W6.setCell ⟨W3.heap.size, 0, none⟩ (.func (.func 145) #[] #[.pointer (some ⟨W4.heap.size + 1, 0, none⟩), .pointer (some ⟨W4.heap.size, 0, none⟩), .pointer (some ⟨W4.heap.size + 1 + 1, 0, none⟩)])).setCell ⟨W5.heap.size, 0, none⟩ (.int .i64 (n - d.first))) := GA.setCell (p := ⟨W5.heap.size, 0, none⟩) bi _
            have nF2 := Joins.block_setCell (i := 0) nF (.func (.func 145) #[] #[.pointer (some ⟨W4.heap.size + 1, 0, none⟩), .pointer (some ⟨W4.heap.size, 0, none⟩), .pointer (some ⟨W4.heap.size + 1 + 1, 0, none⟩)])
            have nI2 := (Below.heap_setCell W6 ⟨W3.heap.size, 0, none⟩ (.func (.func 145) #[] #[.pointer (some ⟨W4.heap.size + 1, 0, none⟩), .pointer (some ⟨W4.heap.size, 0, none⟩), .pointer (some ⟨W4.heap.size + 1 + 1, 0, none⟩)]) (W5.heap.size) (show W5.heap.size ≠ W3.heap.size by omega)).trans nI
            have nF3 := (Below.heap_setCell (W6.setCell ⟨W3.heap.size, 0, none⟩ (.func (.func 145) #[] #[.pointer (some ⟨W4.heap.size + 1, 0, none⟩), .pointer (some ⟨W4.heap.size, 0, none⟩), .pointer (some ⟨W4.heap.size + 1 + 1, 0, none⟩)])) ⟨W5.heap.size, 0, none⟩ (.int .i64 (n - d.first)) (W3.heap.size) (show W3.heap.size ≠ W5.heap.size by omega)).trans nF2
            have nI3 := Joins.block_setCell (i := 0) nI2 (.int .i64 (n - d.first))
            replace p0 := (Below.heap_setCell (W6.setCell ⟨W3.heap.size, 0, none⟩ (.func (.func 145) #[] #[.pointer (some ⟨W4.heap.size + 1, 0, none⟩), .pointer (some ⟨W4.heap.size, 0, none⟩), .pointer (some ⟨W4.heap.size + 1 + 1, 0, none⟩)])) ⟨W5.heap.size, 0, none⟩ (.int .i64 (n - d.first)) (W4.heap.size) (show W4.heap.size ≠ W5.heap.size by omega)).trans ((Below.heap_setCell W6 ⟨W3.heap.size, 0, none⟩ (.func (.func 145) #[] #[.pointer (some ⟨W4.heap.size + 1, 0, none⟩), .pointer (some ⟨W4.heap.size, 0, none⟩), .pointer (some ⟨W4.heap.size + 1 + 1, 0, none⟩)]) (W4.heap.size) (show W4.heap.size ≠ W3.heap.size by omega)).trans p0)
            replace p1 := (Below.heap_setCell (W6.setCell ⟨W3.heap.size, 0, none⟩ (.func (.func 145) #[] #[.pointer (some ⟨W4.heap.size + 1, 0, none⟩), .pointer (some ⟨W4.heap.size, 0, none⟩), .pointer (some ⟨W4.heap.size + 1 + 1, 0, none⟩)])) ⟨W5.heap.size, 0, none⟩ (.int .i64 (n - d.first)) (W4.heap.size + 1) (show W4.heap.size + 1 ≠ W5.heap.size by omega)).trans ((Below.heap_setCell W6 ⟨W3.heap.size, 0, none⟩ (.func (.func 145) #[] #[.pointer (some ⟨W4.heap.size + 1, 0, none⟩), .pointer (some ⟨W4.heap.size, 0, none⟩), .pointer (some ⟨W4.heap.size + 1 + 1, 0, none⟩)]) (W4.heap.size + 1) (show W4.heap.size + 1 ≠ W3.heap.size by omega)).trans p1)
            replace p2 := (Below.heap_setCell (W6.setCell ⟨W3.heap.size, 0, none⟩ (.func (.func 145) #[] #[.pointer (some ⟨W4.heap.size + 1, 0, none⟩), .pointer (some ⟨W4.heap.size, 0, none⟩), .pointer (some ⟨W4.heap.size + 1 + 1, 0, none⟩)])) ⟨W5.heap.size, 0, none⟩ (.int .i64 (n - d.first)) (W4.heap.size + 1 + 1) (show W4.heap.size + 1 + 1 ≠ W5.heap.size by omega)).trans ((Below.heap_setCell W6 ⟨W3.heap.size, 0, none⟩ (.func (.func 145) #[] #[.pointer (some ⟨W4.heap.size + 1, 0, none⟩), .pointer (some ⟨W4.heap.size, 0, none⟩), .pointer (some ⟨W4.heap.size + 1 + 1, 0, none⟩)]) (W4.heap.size + 1 + 1) (show W4.heap.size + 1 + 1 ≠ W3.heap.size by omega)).trans p2)
            replace q0 := (GB.block _ z0).trans q0
            replace q1 := (GB.block _ z1).trans q1
            replace q2 := (GB.block _ z2).trans q2
            replace BB := below_then BB GB
            have f0 := Joins.unfrozen_of_block nF 0
            have f1 := Joins.unfrozen_of_block nI2 0
            have i0 := Joins.cell_of_block nF 0
            have i1 := Joins.cell_of_block nI2 0
            have y0 := size_of_block nF
            have y1 := size_of_block nI2
            clear s3 s4 s5 zs3 zs4 zs5 bf bi nF nF2 nI nI2 G3 G4 G5 G6 z0 z1 z2
            have HGA := Lib.hid GA
            have HGB := Lib.hid GB
            clear GA GB
            refine ⟨rfl, ?_⟩
            go_simp
            refine ⟨HGA.out, ?_⟩
            refine ⟨rfl, ?_⟩
            go_simp
            refine ⟨HGB.out, ?_⟩
            clear f0 f1 i0 i1 y0 y1 HGA HGB
            have zq := size_of_block q0
            have z2' := size_of_block q1
            have e0 := Joins.cell_of_block q0 0
            have g0 := Joins.cell_of_block q1 0
            generalize (W6.setCell ⟨W3.heap.size, 0, none⟩ (.func (.func 145) #[] #[.pointer (some ⟨W4.heap.size + 1, 0, none⟩), .pointer (some ⟨W4.heap.size, 0, none⟩), .pointer (some ⟨W4.heap.size + 1 + 1, 0, none⟩)])).setCell ⟨W5.heap.size, 0, none⟩ (.int .i64 (n - d.first)) = W7 at q0 q1 q2 p0 p1 p2 nF3 nI3 BB zq z2' e0 g0 ⊢
            unfold wpEnds
            go_wp2_with fail
            refine (found_c n m d.first _ m1 m2 (by omega) d1 d2).mono ?_
            rintro e W8 ⟨rfl, hb8⟩
            replace q0 := (hb8.block _ (size_of_block q0)).trans q0
            replace q1 := (hb8.block _ (size_of_block q1)).trans q1
            replace q2 := (hb8.block _ (size_of_block q2)).trans q2
            replace p0 := (hb8.block _ (size_of_block p0)).trans p0
            replace p1 := (hb8.block _ (size_of_block p1)).trans p1
            replace p2 := (hb8.block _ (size_of_block p2)).trans p2
            replace nF3 := (hb8.block _ (size_of_block nF3)).trans nF3
            replace nI3 := (hb8.block _ (size_of_block nI3)).trans nI3
            replace BB := below_then BB hb8
            clear hb8 zq z2' e0 g0
            go_wp2_with fail
            refine (numbers_c ⟨foundLo n m d.first, foundHi m d.first⟩ _).mono ?_
            rintro e W9 ⟨rfl, rfl⟩
            have hb9 := below_alloc W8 (.cells #[.int .i64 (foundLo n m d.first), .int .i64 (foundHi m d.first)] 31)
            have sp := heap_alloc_new W8 (.cells #[.int .i64 (foundLo n m d.first), .int .i64 (foundHi m d.first)] 31)
            generalize hw8 : W8.heap.size = s8 at *
            simp only
            generalize W8.alloc (.cells #[.int .i64 (foundLo n m d.first), .int .i64 (foundHi m d.first)] 31) = W9 at sp hb9 ⊢
            subst hw8
            replace q0 := (hb9.block _ (size_of_block q0)).trans q0
            replace q1 := (hb9.block _ (size_of_block q1)).trans q1
            replace q2 := (hb9.block _ (size_of_block q2)).trans q2
            replace p0 := (hb9.block _ (size_of_block p0)).trans p0
            replace p1 := (hb9.block _ (size_of_block p1)).trans p1
            replace p2 := (hb9.block _ (size_of_block p2)).trans p2
            replace nF3 := (hb9.block _ (size_of_block nF3)).trans nF3
            replace nI3 := (hb9.block _ (size_of_block nI3)).trans nI3
            replace BB := below_then BB hb9
            clear hb9
            have TW := tw_all (d := d) m1 m2 nn2 d1 d2 d3 (show d.accept < d.refuse by omega)
            have hG : Gives Try.prog W9.heap.size 0 [] _ encI (numsL (foundLo n m d.first) (foundHi m d.first)) W9 := numbers_g (s := ⟨foundLo n m d.first, foundHi m d.first⟩) (size_of_block sp) (by simp only [foundLo]; omega) (by simp only [foundHi]; omega) sp
            have hJ := justly_t (w := W9) (n := n) (m := m) (t := d.first) m1 m2 (by omega) d1 (Joins.cell_of_block p0 0) (Joins.cell_of_block p1 0) (Joins.cell_of_block p2 0) (lo := foundLo n m d.first) (hi := foundHi m d.first) (by unfold foundLo; omega) (by unfold foundHi; omega) (by omega) (size_of_block p0) (size_of_block p1) (size_of_block p2)
            have hT := twice1_t (d := d) m1 m2 nn2 d1 d3 d4 (by omega) (by omega) hJ nF3 nI3 q0 q1 TW.2.2
            go_wp2_with fail
            refine (total_c _ _ W9.heap.size _ _ W9 hG (Nat.le_refl _) hT (fun pre hp => by have := TW.1 pre hp; omega)).mono ?_
            rintro e W10 ⟨rfl, hb10⟩
            rw [TW.2.1]
            replace q0 := (hb10.block _ (size_of_block q0)).trans q0
            replace q1 := (hb10.block _ (size_of_block q1)).trans q1
            replace q2 := (hb10.block _ (size_of_block q2)).trans q2
            replace p0 := (hb10.block _ (size_of_block p0)).trans p0
            replace p1 := (hb10.block _ (size_of_block p1)).trans p1
            replace p2 := (hb10.block _ (size_of_block p2)).trans p2
            replace nF3 := (hb10.block _ (size_of_block nF3)).trans nF3
            replace nI3 := (hb10.block _ (size_of_block nI3)).trans nI3
            replace BB := below_then BB hb10
            clear hb10 hG hJ hT p0 p1 p2 nF3 sp TW
            have tl := twice_le (n := n) (m := m) (d := d) m1 m2 d3 d1 (j := (d.first + 1).toNat) (by omega)
            obtain ⟨tl1, tl2⟩ := tl
            have c2 := choose_two (n := n) (a := d.first) (b := d.second) d1 d2 nn2
            have c3 := chooseI_pos (n := n) (k := d.first) d2
            have c4 := chooseI_pos (n := n - d.first) (k := d.second) d4
            have c5 : 0 < chooseI n d.first * chooseI (n - d.first) d.second := Int.mul_pos (by omega) (by omega)
            have c6 := chooseI_le (n := n - d.first) d.second (by omega)
            have c7 := chooseI_le (n := n) d.first (by omega)
            have HTW := Lib.hid (show twiceR n m d = (ratioI (sumI (twT n m d) (d.first + 1).toNat) (chooseI n d.first * chooseI (n - d.first) d.second), 0) by unfold twiceR; rw [if_pos]; rw [HE.out, HB.out, HD.out]; rfl)
            generalize hS : sumI (twT n m d) (d.first + 1).toNat = S at *
            go_wp2_with fail
            have u0 : W10.cell? ⟨w.heap.size + 1, 0, none⟩ = some (.int .i64 d.first) := Joins.cell_of_block q1 0
            have u3 : W10.cell? ⟨w.heap.size + 1, 3, none⟩ = some (.int .i64 d.second) := Joins.cell_of_block q1 3
            have uI : W10.cell? ⟨W5.heap.size, 0, none⟩ = some (.int .i64 (n - d.first)) := Joins.cell_of_block nI3 0
            have zq1 := size_of_block q1
            have zI := size_of_block nI3
            refine wp_region_grown_tail 12 (by kernel_rfl) (by kernel_rfl) fun hcg => ?_
            simp only [List.take_succ_cons, List.take_zero, List.drop_succ_cons, List.drop_zero]
            repeat (go_big_quiet_step (first | (go_at_call 75; exact Calls.grown (chooseP_b _ (by omega) (by omega) (by omega) (by omega))) | (go_at_call 97; exact Calls.grown (ratioP_c S _ _ tl1 c5 (by omega) (by omega)))))
            refine wpQuiet_nil ?_
            intro _ hw'
            obtain ⟨g, hw''⟩ := hw'
            subst hw''
            have hyg := (g.b.block _ (size_of_block q2)).trans q2
            have hBg := below_then BB g.b
            have f0 := Joins.unfrozen_of_block hyg 0
            have f1 := Joins.unfrozen_of_block hyg 1
            have k0 := Joins.cell_of_block hyg 0
            have k1 := Joins.cell_of_block hyg 1
            have hz := size_of_block hyg
            have HP := Lib.hid (put2 (.int .i64 (ratioI S (chooseI n d.first * chooseI (n - d.first) d.second)).num) (.int .i64 (ratioI S (chooseI n d.first * chooseI (n - d.first) d.second)).den) hyg)
            go_wp2_with fail
            refine bodyPost_ret (v := .tuple #[rtV (ratioI S (chooseI n d.first * chooseI (n - d.first) d.second)), .int .i64 0]) ?_ rfl ⟨by rw [HTW.out], (hBg.setCell (by simp; omega) _).setCell (by simp; omega) _⟩
            simp [rtV, results, Try.results58, go_sem, HP.out.1, HP.out.2]
        · refine ⟨_, rfl, rfl, ?_⟩
          clear hk
          go_simp
          have nI := heap_alloc_new W4 (.cells #[.int .i64 0] 3)
          have aa := below_alloc W4 (.cells #[.int .i64 0] 3)
          refine ⟨aa, fun W5 hu => ?_⟩
          have hb := below_then aa hu
          replace nI := (hu.block _ (size_of_block nI)).trans nI
          replace nF := (hb.block _ (size_of_block nF)).trans nF
          have G5 := below_then G4 hb
          have zs4 := Lib.hid (show W4.heap.size + 1 ≤ W5.heap.size from size_of_block nI)
          clear hu aa hb
          refine wpSet_succ fun k hk => ?_
          obtain rfl := (by simpa using hk : k = 4)
          · refine ⟨_, rfl, rfl, ?_⟩
            clear hk
            go_simp
            refine (justly_c n m d.first _).mono ?_
            rintro e W0 ⟨rfl, rfl⟩
            obtain ⟨p0, p1, p2, ps, pb⟩ := three_new W5 (.cells #[.int .i64 n] 3) (.cells #[.int .i64 m] 3) (.cells #[.int .i64 d.first] 3)
            clear ps
            generalize ((W5.alloc _).alloc _).alloc _ = W0 at p0 p1 p2 pb ⊢
            refine ⟨pb, fun W6 hu => ?_⟩
            have hb := below_then pb hu
            replace p0 := (hu.block _ (size_of_block p0)).trans p0
            replace p1 := (hu.block _ (size_of_block p1)).trans p1
            replace p2 := (hu.block _ (size_of_block p2)).trans p2
            replace nF := (hb.block _ (size_of_block nF)).trans nF
            replace nI := (hb.block _ (size_of_block nI)).trans nI
            have G6 := below_then G5 hb
            have zs5 := Lib.hid (show W5.heap.size + 3 ≤ W6.heap.size by have := size_of_block p2; omega)
            clear hu pb hb
            have s3 := zs3.out
            have s4 := zs4.out
            have s5 := zs5.out
            have bf : W3.heap.size ≤ W3.heap.size := by omega
            have bi : W3.heap.size ≤ W4.heap.size := by omega
            have GA : Below W3.heap.size W3 (W6.setCell ⟨W3.heap.size, 0, none⟩ (.func (.func 145) #[] #[.pointer (some ⟨W5.heap.size + 1, 0, none⟩), .pointer (some ⟨W5.heap.size, 0, none⟩), .pointer (some ⟨W5.heap.size + 1 + 1, 0, none⟩)])) := G6.setCell (p := ⟨W3.heap.size, 0, none⟩) bf _
            have GB : Below W3.heap.size W3 ((W6.setCell ⟨W3.heap.size, 0, none⟩ (.func (.func 145) #[] #[.pointer (some ⟨W5.heap.size + 1, 0, none⟩), .pointer (some ⟨W5.heap.size, 0, none⟩), .pointer (some ⟨W5.heap.size + 1 + 1, 0, none⟩)])).setCell ⟨W4.heap.size, 0, none⟩ (.int .i64 (n - d.first))) := GA.setCell (p := ⟨W4.heap.size, 0, none⟩) bi _
            have nF2 := Joins.block_setCell (i := 0) nF (.func (.func 145) #[] #[.pointer (some ⟨W5.heap.size + 1, 0, none⟩), .pointer (some ⟨W5.heap.size, 0, none⟩), .pointer (some ⟨W5.heap.size + 1 + 1, 0, none⟩)])
            have nI2 := (Below.heap_setCell W6 ⟨W3.heap.size, 0, none⟩ (.func (.func 145) #[] #[.pointer (some ⟨W5.heap.size + 1, 0, none⟩), .pointer (some ⟨W5.heap.size, 0, none⟩), .pointer (some ⟨W5.heap.size + 1 + 1, 0, none⟩)]) (W4.heap.size) (show W4.heap.size ≠ W3.heap.size by omega)).trans nI
            have nF3 := (Below.heap_setCell (W6.setCell ⟨W3.heap.size, 0, none⟩ (.func (.func 145) #[] #[.pointer (some ⟨W5.heap.size + 1, 0, none⟩), .pointer (some ⟨W5.heap.size, 0, none⟩), .pointer (some ⟨W5.heap.size + 1 + 1, 0, none⟩)])) ⟨W4.heap.size, 0, none⟩ (.int .i64 (n - d.first)) (W3.heap.size) (show W3.heap.size ≠ W4.heap.size by omega)).trans nF2
            have nI3 := Joins.block_setCell (i := 0) nI2 (.int .i64 (n - d.first))
            replace p0 := (Below.heap_setCell (W6.setCell ⟨W3.heap.size, 0, none⟩ (.func (.func 145) #[] #[.pointer (some ⟨W5.heap.size + 1, 0, none⟩), .pointer (some ⟨W5.heap.size, 0, none⟩), .pointer (some ⟨W5.heap.size + 1 + 1, 0, none⟩)])) ⟨W4.heap.size, 0, none⟩ (.int .i64 (n - d.first)) (W5.heap.size) (show W5.heap.size ≠ W4.heap.size by omega)).trans ((Below.heap_setCell W6 ⟨W3.heap.size, 0, none⟩ (.func (.func 145) #[] #[.pointer (some ⟨W5.heap.size + 1, 0, none⟩), .pointer (some ⟨W5.heap.size, 0, none⟩), .pointer (some ⟨W5.heap.size + 1 + 1, 0, none⟩)]) (W5.heap.size) (show W5.heap.size ≠ W3.heap.size by omega)).trans p0)
            replace p1 := (Below.heap_setCell (W6.setCell ⟨W3.heap.size, 0, none⟩ (.func (.func 145) #[] #[.pointer (some ⟨W5.heap.size + 1, 0, none⟩), .pointer (some ⟨W5.heap.size, 0, none⟩), .pointer (some ⟨W5.heap.size + 1 + 1, 0, none⟩)])) ⟨W4.heap.size, 0, none⟩ (.int .i64 (n - d.first)) (W5.heap.size + 1) (show W5.heap.size + 1 ≠ W4.heap.size by omega)).trans ((Below.heap_setCell W6 ⟨W3.heap.size, 0, none⟩ (.func (.func 145) #[] #[.pointer (some ⟨W5.heap.size + 1, 0, none⟩), .pointer (some ⟨W5.heap.size, 0, none⟩), .pointer (some ⟨W5.heap.size + 1 + 1, 0, none⟩)]) (W5.heap.size + 1) (show W5.heap.size + 1 ≠ W3.heap.size by omega)).trans p1)
            replace p2 := (Below.heap_setCell (W6.setCell ⟨W3.heap.size, 0, none⟩ (.func (.func 145) #[] #[.pointer (some ⟨W5.heap.size + 1, 0, none⟩), .pointer (some ⟨W5.heap.size, 0, none⟩), .pointer (some ⟨W5.heap.size + 1 + 1, 0, none⟩)])) ⟨W4.heap.size, 0, none⟩ (.int .i64 (n - d.first)) (W5.heap.size + 1 + 1) (show W5.heap.size + 1 + 1 ≠ W4.heap.size by omega)).trans ((Below.heap_setCell W6 ⟨W3.heap.size, 0, none⟩ (.func (.func 145) #[] #[.pointer (some ⟨W5.heap.size + 1, 0, none⟩), .pointer (some ⟨W5.heap.size, 0, none⟩), .pointer (some ⟨W5.heap.size + 1 + 1, 0, none⟩)]) (W5.heap.size + 1 + 1) (show W5.heap.size + 1 + 1 ≠ W3.heap.size by omega)).trans p2)
            replace q0 := (GB.block _ z0).trans q0
            replace q1 := (GB.block _ z1).trans q1
            replace q2 := (GB.block _ z2).trans q2
            replace BB := below_then BB GB
            have f0 := Joins.unfrozen_of_block nF 0
            have f1 := Joins.unfrozen_of_block nI2 0
            have i0 := Joins.cell_of_block nF 0
            have i1 := Joins.cell_of_block nI2 0
            have y0 := size_of_block nF
            have y1 := size_of_block nI2
            clear s3 s4 s5 zs3 zs4 zs5 bf bi nF nF2 nI nI2 G3 G4 G5 G6 z0 z1 z2
            have HGA := Lib.hid GA
            have HGB := Lib.hid GB
            clear GA GB
            refine ⟨rfl, ?_⟩
            go_simp
            refine ⟨HGA.out, ?_⟩
            refine ⟨rfl, ?_⟩
            go_simp
            refine ⟨HGB.out, ?_⟩
            clear f0 f1 i0 i1 y0 y1 HGA HGB
            have zq := size_of_block q0
            have z2' := size_of_block q1
            have e0 := Joins.cell_of_block q0 0
            have g0 := Joins.cell_of_block q1 0
            generalize (W6.setCell ⟨W3.heap.size, 0, none⟩ (.func (.func 145) #[] #[.pointer (some ⟨W5.heap.size + 1, 0, none⟩), .pointer (some ⟨W5.heap.size, 0, none⟩), .pointer (some ⟨W5.heap.size + 1 + 1, 0, none⟩)])).setCell ⟨W4.heap.size, 0, none⟩ (.int .i64 (n - d.first)) = W7 at q0 q1 q2 p0 p1 p2 nF3 nI3 BB zq z2' e0 g0 ⊢
            unfold wpEnds
            go_wp2_with fail
            refine (found_c n m d.first _ m1 m2 (by omega) d1 d2).mono ?_
            rintro e W8 ⟨rfl, hb8⟩
            replace q0 := (hb8.block _ (size_of_block q0)).trans q0
            replace q1 := (hb8.block _ (size_of_block q1)).trans q1
            replace q2 := (hb8.block _ (size_of_block q2)).trans q2
            replace p0 := (hb8.block _ (size_of_block p0)).trans p0
            replace p1 := (hb8.block _ (size_of_block p1)).trans p1
            replace p2 := (hb8.block _ (size_of_block p2)).trans p2
            replace nF3 := (hb8.block _ (size_of_block nF3)).trans nF3
            replace nI3 := (hb8.block _ (size_of_block nI3)).trans nI3
            replace BB := below_then BB hb8
            clear hb8 zq z2' e0 g0
            go_wp2_with fail
            refine (numbers_c ⟨foundLo n m d.first, foundHi m d.first⟩ _).mono ?_
            rintro e W9 ⟨rfl, rfl⟩
            have hb9 := below_alloc W8 (.cells #[.int .i64 (foundLo n m d.first), .int .i64 (foundHi m d.first)] 31)
            have sp := heap_alloc_new W8 (.cells #[.int .i64 (foundLo n m d.first), .int .i64 (foundHi m d.first)] 31)
            generalize hw8 : W8.heap.size = s8 at *
            simp only
            generalize W8.alloc (.cells #[.int .i64 (foundLo n m d.first), .int .i64 (foundHi m d.first)] 31) = W9 at sp hb9 ⊢
            subst hw8
            replace q0 := (hb9.block _ (size_of_block q0)).trans q0
            replace q1 := (hb9.block _ (size_of_block q1)).trans q1
            replace q2 := (hb9.block _ (size_of_block q2)).trans q2
            replace p0 := (hb9.block _ (size_of_block p0)).trans p0
            replace p1 := (hb9.block _ (size_of_block p1)).trans p1
            replace p2 := (hb9.block _ (size_of_block p2)).trans p2
            replace nF3 := (hb9.block _ (size_of_block nF3)).trans nF3
            replace nI3 := (hb9.block _ (size_of_block nI3)).trans nI3
            replace BB := below_then BB hb9
            clear hb9
            have TW := tw_all (d := d) m1 m2 nn2 d1 d2 d3 (show d.accept < d.refuse by omega)
            have hG : Gives Try.prog W9.heap.size 0 [] _ encI (numsL (foundLo n m d.first) (foundHi m d.first)) W9 := numbers_g (s := ⟨foundLo n m d.first, foundHi m d.first⟩) (size_of_block sp) (by simp only [foundLo]; omega) (by simp only [foundHi]; omega) sp
            have hJ := justly_t (w := W9) (n := n) (m := m) (t := d.first) m1 m2 (by omega) d1 (Joins.cell_of_block p0 0) (Joins.cell_of_block p1 0) (Joins.cell_of_block p2 0) (lo := foundLo n m d.first) (hi := foundHi m d.first) (by unfold foundLo; omega) (by unfold foundHi; omega) (by omega) (size_of_block p0) (size_of_block p1) (size_of_block p2)
            have hT := twice1_t (d := d) m1 m2 nn2 d1 d3 d4 (by omega) (by omega) hJ nF3 nI3 q0 q1 TW.2.2
            go_wp2_with fail
            refine (total_c _ _ W9.heap.size _ _ W9 hG (Nat.le_refl _) hT (fun pre hp => by have := TW.1 pre hp; omega)).mono ?_
            rintro e W10 ⟨rfl, hb10⟩
            rw [TW.2.1]
            replace q0 := (hb10.block _ (size_of_block q0)).trans q0
            replace q1 := (hb10.block _ (size_of_block q1)).trans q1
            replace q2 := (hb10.block _ (size_of_block q2)).trans q2
            replace p0 := (hb10.block _ (size_of_block p0)).trans p0
            replace p1 := (hb10.block _ (size_of_block p1)).trans p1
            replace p2 := (hb10.block _ (size_of_block p2)).trans p2
            replace nF3 := (hb10.block _ (size_of_block nF3)).trans nF3
            replace nI3 := (hb10.block _ (size_of_block nI3)).trans nI3
            replace BB := below_then BB hb10
            clear hb10 hG hJ hT p0 p1 p2 nF3 sp TW
            have tl := twice_le (n := n) (m := m) (d := d) m1 m2 d3 d1 (j := (d.first + 1).toNat) (by omega)
            obtain ⟨tl1, tl2⟩ := tl
            have c2 := choose_two (n := n) (a := d.first) (b := d.second) d1 d2 nn2
            have c3 := chooseI_pos (n := n) (k := d.first) d2
            have c4 := chooseI_pos (n := n - d.first) (k := d.second) d4
            have c5 : 0 < chooseI n d.first * chooseI (n - d.first) d.second := Int.mul_pos (by omega) (by omega)
            have c6 := chooseI_le (n := n - d.first) d.second (by omega)
            have c7 := chooseI_le (n := n) d.first (by omega)
            have HTW := Lib.hid (show twiceR n m d = (ratioI (sumI (twT n m d) (d.first + 1).toNat) (chooseI n d.first * chooseI (n - d.first) d.second), 0) by unfold twiceR; rw [if_pos]; rw [HE.out, HB.out, HD.out]; rfl)
            generalize hS : sumI (twT n m d) (d.first + 1).toNat = S at *
            go_wp2_with fail
            have u0 : W10.cell? ⟨w.heap.size + 1, 0, none⟩ = some (.int .i64 d.first) := Joins.cell_of_block q1 0
            have u3 : W10.cell? ⟨w.heap.size + 1, 3, none⟩ = some (.int .i64 d.second) := Joins.cell_of_block q1 3
            have uI : W10.cell? ⟨W4.heap.size, 0, none⟩ = some (.int .i64 (n - d.first)) := Joins.cell_of_block nI3 0
            have zq1 := size_of_block q1
            have zI := size_of_block nI3
            refine wp_region_grown_tail 12 (by kernel_rfl) (by kernel_rfl) fun hcg => ?_
            simp only [List.take_succ_cons, List.take_zero, List.drop_succ_cons, List.drop_zero]
            repeat (go_big_quiet_step (first | (go_at_call 75; exact Calls.grown (chooseP_b _ (by omega) (by omega) (by omega) (by omega))) | (go_at_call 97; exact Calls.grown (ratioP_c S _ _ tl1 c5 (by omega) (by omega)))))
            refine wpQuiet_nil ?_
            intro _ hw'
            obtain ⟨g, hw''⟩ := hw'
            subst hw''
            have hyg := (g.b.block _ (size_of_block q2)).trans q2
            have hBg := below_then BB g.b
            have f0 := Joins.unfrozen_of_block hyg 0
            have f1 := Joins.unfrozen_of_block hyg 1
            have k0 := Joins.cell_of_block hyg 0
            have k1 := Joins.cell_of_block hyg 1
            have hz := size_of_block hyg
            have HP := Lib.hid (put2 (.int .i64 (ratioI S (chooseI n d.first * chooseI (n - d.first) d.second)).num) (.int .i64 (ratioI S (chooseI n d.first * chooseI (n - d.first) d.second)).den) hyg)
            go_wp2_with fail
            refine bodyPost_ret (v := .tuple #[rtV (ratioI S (chooseI n d.first * chooseI (n - d.first) d.second)), .int .i64 0]) ?_ rfl ⟨by rw [HTW.out], (hBg.setCell (by simp; omega) _).setCell (by simp; omega) _⟩
            simp [rtV, results, Try.results58, go_sem, HP.out.1, HP.out.2]
      · refine ⟨_, rfl, rfl, ?_⟩
        clear hk
        go_simp
        have nI := heap_alloc_new W3 (.cells #[.int .i64 0] 3)
        have aa := below_alloc W3 (.cells #[.int .i64 0] 3)
        refine ⟨aa, fun W4 hu => ?_⟩
        have hb := below_then aa hu
        replace nI := (hu.block _ (size_of_block nI)).trans nI
        have G4 := below_then G3 hb
        have zs3 := Lib.hid (show W3.heap.size + 1 ≤ W4.heap.size from size_of_block nI)
        clear hu aa hb
        refine wpSet_succ fun k hk => ?_
        obtain rfl | rfl := (by simpa using hk : k = 4 ∨ k = 9)
        · refine ⟨_, rfl, rfl, ?_⟩
          clear hk
          go_simp
          refine (justly_c n m d.first _).mono ?_
          rintro e W0 ⟨rfl, rfl⟩
          obtain ⟨p0, p1, p2, ps, pb⟩ := three_new W4 (.cells #[.int .i64 n] 3) (.cells #[.int .i64 m] 3) (.cells #[.int .i64 d.first] 3)
          clear ps
          generalize ((W4.alloc _).alloc _).alloc _ = W0 at p0 p1 p2 pb ⊢
          refine ⟨pb, fun W5 hu => ?_⟩
          have hb := below_then pb hu
          replace p0 := (hu.block _ (size_of_block p0)).trans p0
          replace p1 := (hu.block _ (size_of_block p1)).trans p1
          replace p2 := (hu.block _ (size_of_block p2)).trans p2
          replace nI := (hb.block _ (size_of_block nI)).trans nI
          have G5 := below_then G4 hb
          have zs4 := Lib.hid (show W4.heap.size + 3 ≤ W5.heap.size by have := size_of_block p2; omega)
          clear hu pb hb
          refine wpSet_succ fun k hk => ?_
          obtain rfl := (by simpa using hk : k = 9)
          · refine ⟨_, rfl, rfl, ?_⟩
            clear hk
            go_simp
            have nF := heap_alloc_new W5 (.cells #[.nilFunc] 134)
            have aa := below_alloc W5 (.cells #[.nilFunc] 134)
            refine ⟨aa, fun W6 hu => ?_⟩
            have hb := below_then aa hu
            replace nF := (hu.block _ (size_of_block nF)).trans nF
            replace nI := (hb.block _ (size_of_block nI)).trans nI
            replace p0 := (hb.block _ (size_of_block p0)).trans p0
            replace p1 := (hb.block _ (size_of_block p1)).trans p1
            replace p2 := (hb.block _ (size_of_block p2)).trans p2
            have G6 := below_then G5 hb
            have zs5 := Lib.hid (show W5.heap.size + 1 ≤ W6.heap.size from size_of_block nF)
            clear hu aa hb
            have s3 := zs3.out
            have s4 := zs4.out
            have s5 := zs5.out
            have bf : W3.heap.size ≤ W5.heap.size := by omega
            have bi : W3.heap.size ≤ W3.heap.size := by omega
            have GA : Below W3.heap.size W3 (W6.setCell ⟨W5.heap.size, 0, none⟩ (.func (.func 145) #[] #[.pointer (some ⟨W4.heap.size + 1, 0, none⟩), .pointer (some ⟨W4.heap.size, 0, none⟩), .pointer (some ⟨W4.heap.size + 1 + 1, 0, none⟩)])) := G6.setCell (p := ⟨W5.heap.size, 0, none⟩) bf _
            have GB : Below W3.heap.size W3 ((W6.setCell ⟨W5.heap.size, 0, none⟩ (.func (.func 145) #[] #[.pointer (some ⟨W4.heap.size + 1, 0, none⟩), .pointer (some ⟨W4.heap.size, 0, none⟩), .pointer (some ⟨W4.heap.size + 1 + 1, 0, none⟩)])).setCell ⟨W3.heap.size, 0, none⟩ (.int .i64 (n - d.first))) := GA.setCell (p := ⟨W3.heap.size, 0, none⟩) bi _
            have nF2 := Joins.block_setCell (i := 0) nF (.func (.func 145) #[] #[.pointer (some ⟨W4.heap.size + 1, 0, none⟩), .pointer (some ⟨W4.heap.size, 0, none⟩), .pointer (some ⟨W4.heap.size + 1 + 1, 0, none⟩)])
            have nI2 := (Below.heap_setCell W6 ⟨W5.heap.size, 0, none⟩ (.func (.func 145) #[] #[.pointer (some ⟨W4.heap.size + 1, 0, none⟩), .pointer (some ⟨W4.heap.size, 0, none⟩), .pointer (some ⟨W4.heap.size + 1 + 1, 0, none⟩)]) (W3.heap.size) (show W3.heap.size ≠ W5.heap.size by omega)).trans nI
            have nF3 := (Below.heap_setCell (W6.setCell ⟨W5.heap.size, 0, none⟩ (.func (.func 145) #[] #[.pointer (some ⟨W4.heap.size + 1, 0, none⟩), .pointer (some ⟨W4.heap.size, 0, none⟩), .pointer (some ⟨W4.heap.size + 1 + 1, 0, none⟩)])) ⟨W3.heap.size, 0, none⟩ (.int .i64 (n - d.first)) (W5.heap.size) (show W5.heap.size ≠ W3.heap.size by omega)).trans nF2
            have nI3 := Joins.block_setCell (i := 0) nI2 (.int .i64 (n - d.first))
            replace p0 := (Below.heap_setCell (W6.setCell ⟨W5.heap.size, 0, none⟩ (.func (.func 145) #[] #[.pointer (some ⟨W4.heap.size + 1, 0, none⟩), .pointer (some ⟨W4.heap.size, 0, none⟩), .pointer (some ⟨W4.heap.size + 1 + 1, 0, none⟩)])) ⟨W3.heap.size, 0, none⟩ (.int .i64 (n - d.first)) (W4.heap.size) (show W4.heap.size ≠ W3.heap.size by omega)).trans ((Below.heap_setCell W6 ⟨W5.heap.size, 0, none⟩ (.func (.func 145) #[] #[.pointer (some ⟨W4.heap.size + 1, 0, none⟩), .pointer (some ⟨W4.heap.size, 0, none⟩), .pointer (some ⟨W4.heap.size + 1 + 1, 0, none⟩)]) (W4.heap.size) (show W4.heap.size ≠ W5.heap.size by omega)).trans p0)
            replace p1 := (Below.heap_setCell (W6.setCell ⟨W5.heap.size, 0, none⟩ (.func (.func 145) #[] #[.pointer (some ⟨W4.heap.size + 1, 0, none⟩), .pointer (some ⟨W4.heap.size, 0, none⟩), .pointer (some ⟨W4.heap.size + 1 + 1, 0, none⟩)])) ⟨W3.heap.size, 0, none⟩ (.int .i64 (n - d.first)) (W4.heap.size + 1) (show W4.heap.size + 1 ≠ W3.heap.size by omega)).trans ((Below.heap_setCell W6 ⟨W5.heap.size, 0, none⟩ (.func (.func 145) #[] #[.pointer (some ⟨W4.heap.size + 1, 0, none⟩), .pointer (some ⟨W4.heap.size, 0, none⟩), .pointer (some ⟨W4.heap.size + 1 + 1, 0, none⟩)]) (W4.heap.size + 1) (show W4.heap.size + 1 ≠ W5.heap.size by omega)).trans p1)
            replace p2 := (Below.heap_setCell (W6.setCell ⟨W5.heap.size, 0, none⟩ (.func (.func 145) #[] #[.pointer (some ⟨W4.heap.size + 1, 0, none⟩), .pointer (some ⟨W4.heap.size, 0, none⟩), .pointer (some ⟨W4.heap.size + 1 + 1, 0, none⟩)])) ⟨W3.heap.size, 0, none⟩ (.int .i64 (n - d.first)) (W4.heap.size + 1 + 1) (show W4.heap.size + 1 + 1 ≠ W3.heap.size by omega)).trans ((Below.heap_setCell W6 ⟨W5.heap.size, 0, none⟩ (.func (.func 145) #[] #[.pointer (some ⟨W4.heap.size + 1, 0, none⟩), .pointer (some ⟨W4.heap.size, 0, none⟩), .pointer (some ⟨W4.heap.size + 1 + 1, 0, none⟩)]) (W4.heap.size + 1 + 1) (show W4.heap.size + 1 + 1 ≠ W5.heap.size by omega)).trans p2)
            replace q0 := (GB.block _ z0).trans q0
            replace q1 := (GB.block _ z1).trans q1
            replace q2 := (GB.block _ z2).trans q2
            replace BB := below_then BB GB
            have f0 := Joins.unfrozen_of_block nF 0
            have f1 := Joins.unfrozen_of_block nI2 0
            have i0 := Joins.cell_of_block nF 0
            have i1 := Joins.cell_of_block nI2 0
            have y0 := size_of_block nF
            have y1 := size_of_block nI2
            clear s3 s4 s5 zs3 zs4 zs5 bf bi nF nF2 nI nI2 G3 G4 G5 G6 z0 z1 z2
            have HGA := Lib.hid GA
            have HGB := Lib.hid GB
            clear GA GB
            refine ⟨rfl, ?_⟩
            go_simp
            refine ⟨HGA.out, ?_⟩
            refine ⟨rfl, ?_⟩
            go_simp
            refine ⟨HGB.out, ?_⟩
            clear f0 f1 i0 i1 y0 y1 HGA HGB
            have zq := size_of_block q0
            have z2' := size_of_block q1
            have e0 := Joins.cell_of_block q0 0
            have g0 := Joins.cell_of_block q1 0
            generalize (W6.setCell ⟨W5.heap.size, 0, none⟩ (.func (.func 145) #[] #[.pointer (some ⟨W4.heap.size + 1, 0, none⟩), .pointer (some ⟨W4.heap.size, 0, none⟩), .pointer (some ⟨W4.heap.size + 1 + 1, 0, none⟩)])).setCell ⟨W3.heap.size, 0, none⟩ (.int .i64 (n - d.first)) = W7 at q0 q1 q2 p0 p1 p2 nF3 nI3 BB zq z2' e0 g0 ⊢
            unfold wpEnds
            go_wp2_with fail
            refine (found_c n m d.first _ m1 m2 (by omega) d1 d2).mono ?_
            rintro e W8 ⟨rfl, hb8⟩
            replace q0 := (hb8.block _ (size_of_block q0)).trans q0
            replace q1 := (hb8.block _ (size_of_block q1)).trans q1
            replace q2 := (hb8.block _ (size_of_block q2)).trans q2
            replace p0 := (hb8.block _ (size_of_block p0)).trans p0
            replace p1 := (hb8.block _ (size_of_block p1)).trans p1
            replace p2 := (hb8.block _ (size_of_block p2)).trans p2
            replace nF3 := (hb8.block _ (size_of_block nF3)).trans nF3
            replace nI3 := (hb8.block _ (size_of_block nI3)).trans nI3
            replace BB := below_then BB hb8
            clear hb8 zq z2' e0 g0
            go_wp2_with fail
            refine (numbers_c ⟨foundLo n m d.first, foundHi m d.first⟩ _).mono ?_
            rintro e W9 ⟨rfl, rfl⟩
            have hb9 := below_alloc W8 (.cells #[.int .i64 (foundLo n m d.first), .int .i64 (foundHi m d.first)] 31)
            have sp := heap_alloc_new W8 (.cells #[.int .i64 (foundLo n m d.first), .int .i64 (foundHi m d.first)] 31)
            generalize hw8 : W8.heap.size = s8 at *
            simp only
            generalize W8.alloc (.cells #[.int .i64 (foundLo n m d.first), .int .i64 (foundHi m d.first)] 31) = W9 at sp hb9 ⊢
            subst hw8
            replace q0 := (hb9.block _ (size_of_block q0)).trans q0
            replace q1 := (hb9.block _ (size_of_block q1)).trans q1
            replace q2 := (hb9.block _ (size_of_block q2)).trans q2
            replace p0 := (hb9.block _ (size_of_block p0)).trans p0
            replace p1 := (hb9.block _ (size_of_block p1)).trans p1
            replace p2 := (hb9.block _ (size_of_block p2)).trans p2
            replace nF3 := (hb9.block _ (size_of_block nF3)).trans nF3
            replace nI3 := (hb9.block _ (size_of_block nI3)).trans nI3
            replace BB := below_then BB hb9
            clear hb9
            have TW := tw_all (d := d) m1 m2 nn2 d1 d2 d3 (show d.accept < d.refuse by omega)
            have hG : Gives Try.prog W9.heap.size 0 [] _ encI (numsL (foundLo n m d.first) (foundHi m d.first)) W9 := numbers_g (s := ⟨foundLo n m d.first, foundHi m d.first⟩) (size_of_block sp) (by simp only [foundLo]; omega) (by simp only [foundHi]; omega) sp
            have hJ := justly_t (w := W9) (n := n) (m := m) (t := d.first) m1 m2 (by omega) d1 (Joins.cell_of_block p0 0) (Joins.cell_of_block p1 0) (Joins.cell_of_block p2 0) (lo := foundLo n m d.first) (hi := foundHi m d.first) (by unfold foundLo; omega) (by unfold foundHi; omega) (by omega) (size_of_block p0) (size_of_block p1) (size_of_block p2)
            have hT := twice1_t (d := d) m1 m2 nn2 d1 d3 d4 (by omega) (by omega) hJ nF3 nI3 q0 q1 TW.2.2
            go_wp2_with fail
            refine (total_c _ _ W9.heap.size _ _ W9 hG (Nat.le_refl _) hT (fun pre hp => by have := TW.1 pre hp; omega)).mono ?_
            rintro e W10 ⟨rfl, hb10⟩
            rw [TW.2.1]
            replace q0 := (hb10.block _ (size_of_block q0)).trans q0
            replace q1 := (hb10.block _ (size_of_block q1)).trans q1
            replace q2 := (hb10.block _ (size_of_block q2)).trans q2
            replace p0 := (hb10.block _ (size_of_block p0)).trans p0
            replace p1 := (hb10.block _ (size_of_block p1)).trans p1
            replace p2 := (hb10.block _ (size_of_block p2)).trans p2
            replace nF3 := (hb10.block _ (size_of_block nF3)).trans nF3
            replace nI3 := (hb10.block _ (size_of_block nI3)).trans nI3
            replace BB := below_then BB hb10
            clear hb10 hG hJ hT p0 p1 p2 nF3 sp TW
            have tl := twice_le (n := n) (m := m) (d := d) m1 m2 d3 d1 (j := (d.first + 1).toNat) (by omega)
            obtain ⟨tl1, tl2⟩ := tl
            have c2 := choose_two (n := n) (a := d.first) (b := d.second) d1 d2 nn2
            have c3 := chooseI_pos (n := n) (k := d.first) d2
            have c4 := chooseI_pos (n := n - d.first) (k := d.second) d4
            have c5 : 0 < chooseI n d.first * chooseI (n - d.first) d.second := Int.mul_pos (by omega) (by omega)
            have c6 := chooseI_le (n := n - d.first) d.second (by omega)
            have c7 := chooseI_le (n := n) d.first (by omega)
            have HTW := Lib.hid (show twiceR n m d = (ratioI (sumI (twT n m d) (d.first + 1).toNat) (chooseI n d.first * chooseI (n - d.first) d.second), 0) by unfold twiceR; rw [if_pos]; rw [HE.out, HB.out, HD.out]; rfl)
            generalize hS : sumI (twT n m d) (d.first + 1).toNat = S at *
            go_wp2_with fail
            have u0 : W10.cell? ⟨w.heap.size + 1, 0, none⟩ = some (.int .i64 d.first) := Joins.cell_of_block q1 0
            have u3 : W10.cell? ⟨w.heap.size + 1, 3, none⟩ = some (.int .i64 d.second) := Joins.cell_of_block q1 3
            have uI : W10.cell? ⟨W3.heap.size, 0, none⟩ = some (.int .i64 (n - d.first)) := Joins.cell_of_block nI3 0
            have zq1 := size_of_block q1
            have zI := size_of_block nI3
            refine wp_region_grown_tail 12 (by kernel_rfl) (by kernel_rfl) fun hcg => ?_
            simp only [List.take_succ_cons, List.take_zero, List.drop_succ_cons, List.drop_zero]
            repeat (go_big_quiet_step (first | (go_at_call 75; exact Calls.grown (chooseP_b _ (by omega) (by omega) (by omega) (by omega))) | (go_at_call 97; exact Calls.grown (ratioP_c S _ _ tl1 c5 (by omega) (by omega)))))
            refine wpQuiet_nil ?_
            intro _ hw'
            obtain ⟨g, hw''⟩ := hw'
            subst hw''
            have hyg := (g.b.block _ (size_of_block q2)).trans q2
            have hBg := below_then BB g.b
            have f0 := Joins.unfrozen_of_block hyg 0
            have f1 := Joins.unfrozen_of_block hyg 1
            have k0 := Joins.cell_of_block hyg 0
            have k1 := Joins.cell_of_block hyg 1
            have hz := size_of_block hyg
            have HP := Lib.hid (put2 (.int .i64 (ratioI S (chooseI n d.first * chooseI (n - d.first) d.second)).num) (.int .i64 (ratioI S (chooseI n d.first * chooseI (n - d.first) d.second)).den) hyg)
            go_wp2_with fail
            refine bodyPost_ret (v := .tuple #[rtV (ratioI S (chooseI n d.first * chooseI (n - d.first) d.second)), .int .i64 0]) ?_ rfl ⟨by rw [HTW.out], (hBg.setCell (by simp; omega) _).setCell (by simp; omega) _⟩
            simp [rtV, results, Try.results58, go_sem, HP.out.1, HP.out.2]
        · refine ⟨_, rfl, rfl, ?_⟩
          clear hk
          go_simp
          have nF := heap_alloc_new W4 (.cells #[.nilFunc] 134)
          have aa := below_alloc W4 (.cells #[.nilFunc] 134)
          refine ⟨aa, fun W5 hu => ?_⟩
          have hb := below_then aa hu
          replace nF := (hu.block _ (size_of_block nF)).trans nF
          replace nI := (hb.block _ (size_of_block nI)).trans nI
          have G5 := below_then G4 hb
          have zs4 := Lib.hid (show W4.heap.size + 1 ≤ W5.heap.size from size_of_block nF)
          clear hu aa hb
          refine wpSet_succ fun k hk => ?_
          obtain rfl := (by simpa using hk : k = 4)
          · refine ⟨_, rfl, rfl, ?_⟩
            clear hk
            go_simp
            refine (justly_c n m d.first _).mono ?_
            rintro e W0 ⟨rfl, rfl⟩
            obtain ⟨p0, p1, p2, ps, pb⟩ := three_new W5 (.cells #[.int .i64 n] 3) (.cells #[.int .i64 m] 3) (.cells #[.int .i64 d.first] 3)
            clear ps
            generalize ((W5.alloc _).alloc _).alloc _ = W0 at p0 p1 p2 pb ⊢
            refine ⟨pb, fun W6 hu => ?_⟩
            have hb := below_then pb hu
            replace p0 := (hu.block _ (size_of_block p0)).trans p0
            replace p1 := (hu.block _ (size_of_block p1)).trans p1
            replace p2 := (hu.block _ (size_of_block p2)).trans p2
            replace nI := (hb.block _ (size_of_block nI)).trans nI
            replace nF := (hb.block _ (size_of_block nF)).trans nF
            have G6 := below_then G5 hb
            have zs5 := Lib.hid (show W5.heap.size + 3 ≤ W6.heap.size by have := size_of_block p2; omega)
            clear hu pb hb
            have s3 := zs3.out
            have s4 := zs4.out
            have s5 := zs5.out
            have bf : W3.heap.size ≤ W4.heap.size := by omega
            have bi : W3.heap.size ≤ W3.heap.size := by omega
            have GA : Below W3.heap.size W3 (W6.setCell ⟨W4.heap.size, 0, none⟩ (.func (.func 145) #[] #[.pointer (some ⟨W5.heap.size + 1, 0, none⟩), .pointer (some ⟨W5.heap.size, 0, none⟩), .pointer (some ⟨W5.heap.size + 1 + 1, 0, none⟩)])) := G6.setCell (p := ⟨W4.heap.size, 0, none⟩) bf _
            have GB : Below W3.heap.size W3 ((W6.setCell ⟨W4.heap.size, 0, none⟩ (.func (.func 145) #[] #[.pointer (some ⟨W5.heap.size + 1, 0, none⟩), .pointer (some ⟨W5.heap.size, 0, none⟩), .pointer (some ⟨W5.heap.size + 1 + 1, 0, none⟩)])).setCell ⟨W3.heap.size, 0, none⟩ (.int .i64 (n - d.first))) := GA.setCell (p := ⟨W3.heap.size, 0, none⟩) bi _
            have nF2 := Joins.block_setCell (i := 0) nF (.func (.func 145) #[] #[.pointer (some ⟨W5.heap.size + 1, 0, none⟩), .pointer (some ⟨W5.heap.size, 0, none⟩), .pointer (some ⟨W5.heap.size + 1 + 1, 0, none⟩)])
            have nI2 := (Below.heap_setCell W6 ⟨W4.heap.size, 0, none⟩ (.func (.func 145) #[] #[.pointer (some ⟨W5.heap.size + 1, 0, none⟩), .pointer (some ⟨W5.heap.size, 0, none⟩), .pointer (some ⟨W5.heap.size + 1 + 1, 0, none⟩)]) (W3.heap.size) (show W3.heap.size ≠ W4.heap.size by omega)).trans nI
            have nF3 := (Below.heap_setCell (W6.setCell ⟨W4.heap.size, 0, none⟩ (.func (.func 145) #[] #[.pointer (some ⟨W5.heap.size + 1, 0, none⟩), .pointer (some ⟨W5.heap.size, 0, none⟩), .pointer (some ⟨W5.heap.size + 1 + 1, 0, none⟩)])) ⟨W3.heap.size, 0, none⟩ (.int .i64 (n - d.first)) (W4.heap.size) (show W4.heap.size ≠ W3.heap.size by omega)).trans nF2
            have nI3 := Joins.block_setCell (i := 0) nI2 (.int .i64 (n - d.first))
            replace p0 := (Below.heap_setCell (W6.setCell ⟨W4.heap.size, 0, none⟩ (.func (.func 145) #[] #[.pointer (some ⟨W5.heap.size + 1, 0, none⟩), .pointer (some ⟨W5.heap.size, 0, none⟩), .pointer (some ⟨W5.heap.size + 1 + 1, 0, none⟩)])) ⟨W3.heap.size, 0, none⟩ (.int .i64 (n - d.first)) (W5.heap.size) (show W5.heap.size ≠ W3.heap.size by omega)).trans ((Below.heap_setCell W6 ⟨W4.heap.size, 0, none⟩ (.func (.func 145) #[] #[.pointer (some ⟨W5.heap.size + 1, 0, none⟩), .pointer (some ⟨W5.heap.size, 0, none⟩), .pointer (some ⟨W5.heap.size + 1 + 1, 0, none⟩)]) (W5.heap.size) (show W5.heap.size ≠ W4.heap.size by omega)).trans p0)
            replace p1 := (Below.heap_setCell (W6.setCell ⟨W4.heap.size, 0, none⟩ (.func (.func 145) #[] #[.pointer (some ⟨W5.heap.size + 1, 0, none⟩), .pointer (some ⟨W5.heap.size, 0, none⟩), .pointer (some ⟨W5.heap.size + 1 + 1, 0, none⟩)])) ⟨W3.heap.size, 0, none⟩ (.int .i64 (n - d.first)) (W5.heap.size + 1) (show W5.heap.size + 1 ≠ W3.heap.size by omega)).trans ((Below.heap_setCell W6 ⟨W4.heap.size, 0, none⟩ (.func (.func 145) #[] #[.pointer (some ⟨W5.heap.size + 1, 0, none⟩), .pointer (some ⟨W5.heap.size, 0, none⟩), .pointer (some ⟨W5.heap.size + 1 + 1, 0, none⟩)]) (W5.heap.size + 1) (show W5.heap.size + 1 ≠ W4.heap.size by omega)).trans p1)
            replace p2 := (Below.heap_setCell (W6.setCell ⟨W4.heap.size, 0, none⟩ (.func (.func 145) #[] #[.pointer (some ⟨W5.heap.size + 1, 0, none⟩), .pointer (some ⟨W5.heap.size, 0, none⟩), .pointer (some ⟨W5.heap.size + 1 + 1, 0, none⟩)])) ⟨W3.heap.size, 0, none⟩ (.int .i64 (n - d.first)) (W5.heap.size + 1 + 1) (show W5.heap.size + 1 + 1 ≠ W3.heap.size by omega)).trans ((Below.heap_setCell W6 ⟨W4.heap.size, 0, none⟩ (.func (.func 145) #[] #[.pointer (some ⟨W5.heap.size + 1, 0, none⟩), .pointer (some ⟨W5.heap.size, 0, none⟩), .pointer (some ⟨W5.heap.size + 1 + 1, 0, none⟩)]) (W5.heap.size + 1 + 1) (show W5.heap.size + 1 + 1 ≠ W4.heap.size by omega)).trans p2)
            replace q0 := (GB.block _ z0).trans q0
            replace q1 := (GB.block _ z1).trans q1
            replace q2 := (GB.block _ z2).trans q2
            replace BB := below_then BB GB
            have f0 := Joins.unfrozen_of_block nF 0
            have f1 := Joins.unfrozen_of_block nI2 0
            have i0 := Joins.cell_of_block nF 0
            have i1 := Joins.cell_of_block nI2 0
            have y0 := size_of_block nF
            have y1 := size_of_block nI2
            clear s3 s4 s5 zs3 zs4 zs5 bf bi nF nF2 nI nI2 G3 G4 G5 G6 z0 z1 z2
            have HGA := Lib.hid GA
            have HGB := Lib.hid GB
            clear GA GB
            refine ⟨rfl, ?_⟩
            go_simp
            refine ⟨HGA.out, ?_⟩
            refine ⟨rfl, ?_⟩
            go_simp
            refine ⟨HGB.out, ?_⟩
            clear f0 f1 i0 i1 y0 y1 HGA HGB
            have zq := size_of_block q0
            have z2' := size_of_block q1
            have e0 := Joins.cell_of_block q0 0
            have g0 := Joins.cell_of_block q1 0
            generalize (W6.setCell ⟨W4.heap.size, 0, none⟩ (.func (.func 145) #[] #[.pointer (some ⟨W5.heap.size + 1, 0, none⟩), .pointer (some ⟨W5.heap.size, 0, none⟩), .pointer (some ⟨W5.heap.size + 1 + 1, 0, none⟩)])).setCell ⟨W3.heap.size, 0, none⟩ (.int .i64 (n - d.first)) = W7 at q0 q1 q2 p0 p1 p2 nF3 nI3 BB zq z2' e0 g0 ⊢
            unfold wpEnds
            go_wp2_with fail
            refine (found_c n m d.first _ m1 m2 (by omega) d1 d2).mono ?_
            rintro e W8 ⟨rfl, hb8⟩
            replace q0 := (hb8.block _ (size_of_block q0)).trans q0
            replace q1 := (hb8.block _ (size_of_block q1)).trans q1
            replace q2 := (hb8.block _ (size_of_block q2)).trans q2
            replace p0 := (hb8.block _ (size_of_block p0)).trans p0
            replace p1 := (hb8.block _ (size_of_block p1)).trans p1
            replace p2 := (hb8.block _ (size_of_block p2)).trans p2
            replace nF3 := (hb8.block _ (size_of_block nF3)).trans nF3
            replace nI3 := (hb8.block _ (size_of_block nI3)).trans nI3
            replace BB := below_then BB hb8
            clear hb8 zq z2' e0 g0
            go_wp2_with fail
            refine (numbers_c ⟨foundLo n m d.first, foundHi m d.first⟩ _).mono ?_
            rintro e W9 ⟨rfl, rfl⟩
            have hb9 := below_alloc W8 (.cells #[.int .i64 (foundLo n m d.first), .int .i64 (foundHi m d.first)] 31)
            have sp := heap_alloc_new W8 (.cells #[.int .i64 (foundLo n m d.first), .int .i64 (foundHi m d.first)] 31)
            generalize hw8 : W8.heap.size = s8 at *
            simp only
            generalize W8.alloc (.cells #[.int .i64 (foundLo n m d.first), .int .i64 (foundHi m d.first)] 31) = W9 at sp hb9 ⊢
            subst hw8
            replace q0 := (hb9.block _ (size_of_block q0)).trans q0
            replace q1 := (hb9.block _ (size_of_block q1)).trans q1
            replace q2 := (hb9.block _ (size_of_block q2)).trans q2
            replace p0 := (hb9.block _ (size_of_block p0)).trans p0
            replace p1 := (hb9.block _ (size_of_block p1)).trans p1
            replace p2 := (hb9.block _ (size_of_block p2)).trans p2
            replace nF3 := (hb9.block _ (size_of_block nF3)).trans nF3
            replace nI3 := (hb9.block _ (size_of_block nI3)).trans nI3
            replace BB := below_then BB hb9
            clear hb9
            have TW := tw_all (d := d) m1 m2 nn2 d1 d2 d3 (show d.accept < d.refuse by omega)
            have hG : Gives Try.prog W9.heap.size 0 [] _ encI (numsL (foundLo n m d.first) (foundHi m d.first)) W9 := numbers_g (s := ⟨foundLo n m d.first, foundHi m d.first⟩) (size_of_block sp) (by simp only [foundLo]; omega) (by simp only [foundHi]; omega) sp
            have hJ := justly_t (w := W9) (n := n) (m := m) (t := d.first) m1 m2 (by omega) d1 (Joins.cell_of_block p0 0) (Joins.cell_of_block p1 0) (Joins.cell_of_block p2 0) (lo := foundLo n m d.first) (hi := foundHi m d.first) (by unfold foundLo; omega) (by unfold foundHi; omega) (by omega) (size_of_block p0) (size_of_block p1) (size_of_block p2)
            have hT := twice1_t (d := d) m1 m2 nn2 d1 d3 d4 (by omega) (by omega) hJ nF3 nI3 q0 q1 TW.2.2
            go_wp2_with fail
            refine (total_c _ _ W9.heap.size _ _ W9 hG (Nat.le_refl _) hT (fun pre hp => by have := TW.1 pre hp; omega)).mono ?_
            rintro e W10 ⟨rfl, hb10⟩
            rw [TW.2.1]
            replace q0 := (hb10.block _ (size_of_block q0)).trans q0
            replace q1 := (hb10.block _ (size_of_block q1)).trans q1
            replace q2 := (hb10.block _ (size_of_block q2)).trans q2
            replace p0 := (hb10.block _ (size_of_block p0)).trans p0
            replace p1 := (hb10.block _ (size_of_block p1)).trans p1
            replace p2 := (hb10.block _ (size_of_block p2)).trans p2
            replace nF3 := (hb10.block _ (size_of_block nF3)).trans nF3
            replace nI3 := (hb10.block _ (size_of_block nI3)).trans nI3
            replace BB := below_then BB hb10
            clear hb10 hG hJ hT p0 p1 p2 nF3 sp TW
            have tl := twice_le (n := n) (m := m) (d := d) m1 m2 d3 d1 (j := (d.first + 1).toNat) (by omega)
            obtain ⟨tl1, tl2⟩ := tl
            have c2 := choose_two (n := n) (a := d.first) (b := d.second) d1 d2 nn2
            have c3 := chooseI_pos (n := n) (k := d.first) d2
            have c4 := chooseI_pos (n := n - d.first) (k := d.second) d4
            have c5 : 0 < chooseI n d.first * chooseI (n - d.first) d.second := Int.mul_pos (by omega) (by omega)
            have c6 := chooseI_le (n := n - d.first) d.second (by omega)
            have c7 := chooseI_le (n := n) d.first (by omega)
            have HTW := Lib.hid (show twiceR n m d = (ratioI (sumI (twT n m d) (d.first + 1).toNat) (chooseI n d.first * chooseI (n - d.first) d.second), 0) by unfold twiceR; rw [if_pos]; rw [HE.out, HB.out, HD.out]; rfl)
            generalize hS : sumI (twT n m d) (d.first + 1).toNat = S at *
            go_wp2_with fail
            have u0 : W10.cell? ⟨w.heap.size + 1, 0, none⟩ = some (.int .i64 d.first) := Joins.cell_of_block q1 0
            have u3 : W10.cell? ⟨w.heap.size + 1, 3, none⟩ = some (.int .i64 d.second) := Joins.cell_of_block q1 3
            have uI : W10.cell? ⟨W3.heap.size, 0, none⟩ = some (.int .i64 (n - d.first)) := Joins.cell_of_block nI3 0
            have zq1 := size_of_block q1
            have zI := size_of_block nI3
            refine wp_region_grown_tail 12 (by kernel_rfl) (by kernel_rfl) fun hcg => ?_
            simp only [List.take_succ_cons, List.take_zero, List.drop_succ_cons, List.drop_zero]
            repeat (go_big_quiet_step (first | (go_at_call 75; exact Calls.grown (chooseP_b _ (by omega) (by omega) (by omega) (by omega))) | (go_at_call 97; exact Calls.grown (ratioP_c S _ _ tl1 c5 (by omega) (by omega)))))
            refine wpQuiet_nil ?_
            intro _ hw'
            obtain ⟨g, hw''⟩ := hw'
            subst hw''
            have hyg := (g.b.block _ (size_of_block q2)).trans q2
            have hBg := below_then BB g.b
            have f0 := Joins.unfrozen_of_block hyg 0
            have f1 := Joins.unfrozen_of_block hyg 1
            have k0 := Joins.cell_of_block hyg 0
            have k1 := Joins.cell_of_block hyg 1
            have hz := size_of_block hyg
            have HP := Lib.hid (put2 (.int .i64 (ratioI S (chooseI n d.first * chooseI (n - d.first) d.second)).num) (.int .i64 (ratioI S (chooseI n d.first * chooseI (n - d.first) d.second)).den) hyg)
            go_wp2_with fail
            refine bodyPost_ret (v := .tuple #[rtV (ratioI S (chooseI n d.first * chooseI (n - d.first) d.second)), .int .i64 0]) ?_ rfl ⟨by rw [HTW.out], (hBg.setCell (by simp; omega) _).setCell (by simp; omega) _⟩
            simp [rtV, results, Try.results58, go_sem, HP.out.1, HP.out.2]
    · have HD := Lib.hid hd
      clear hd
      rw [show twiceR n m d = (⟨0, 0⟩, 1) by unfold twiceR; rw [if_neg]; rw [HE.out, HB.out, HD.out]; simp]
      go_enter Try.func58, Try.ntmps58
      go_wp2_with fail
      have QS := Lib.hid qs
      clear qs
      generalize ((w.alloc _).alloc _).alloc _ = W1 at q0 q1 q2 QS qb ⊢
      have e0 := Joins.cell_of_block q0 0
      have z0 := size_of_block q0
      have z1 := size_of_block q1
      have z2 := size_of_block q2
      have g0 := Joins.cell_of_block q1 0
      have g1 := Joins.cell_of_block q1 1
      have g2 := Joins.cell_of_block q1 2
      have g3 := Joins.cell_of_block q1 3
      have g4 := Joins.cell_of_block q1 4
      go_wp2_with fail
      refine (badP_c _ _ _ _).mono ?_
      rintro e w' ⟨rfl, rfl⟩
      rw [HB.out]
      go_wp2_with fail
      have ID := isDouble_c d n W1 HN.out.1 HN.out.2
      unfold dbV at ID
      refine ID.mono ?_
      clear ID
      rintro e W2 ⟨rfl, hb2⟩
      rw [HD.out]
      have f := (hb2.block _ z2).trans q2
      have hBu := below_then qb hb2
      clear hb2 qb e0 g0 g1 g2 g3 g4 q0 q1 z0 z1 z2
      have k0 := Joins.cell_of_block f 0
      have k1 := Joins.cell_of_block f 1
      have f0 := Joins.unfrozen_of_block f 0
      have f1 := Joins.unfrozen_of_block f 1
      have HP := Lib.hid (put2 (.int .i64 0) (.int .i64 0) f)
      have hz := size_of_block f
      go_wp2_with fail
      refine bodyPost_ret (v := .tuple #[rtV ⟨0, 0⟩, .int .i64 1]) ?_ rfl ⟨rfl, (hBu.setCell (by simp; omega) _).setCell (by simp; omega) _⟩
      simp [rtV, results, Try.results58, go_sem, HP.out.1, HP.out.2]
  · have HB := Lib.hid hb
    clear hb
    rw [show twiceR n m d = (⟨0, 0⟩, 1) by unfold twiceR; rw [if_neg]; rw [HE.out, HB.out]; simp]
    go_enter Try.func58, Try.ntmps58
    go_wp2_with fail
    have QS := Lib.hid qs
    clear qs
    generalize ((w.alloc _).alloc _).alloc _ = W1 at q0 q1 q2 QS qb ⊢
    have e0 := Joins.cell_of_block q0 0
    have z0 := size_of_block q0
    have z1 := size_of_block q1
    have z2 := size_of_block q2
    have g0 := Joins.cell_of_block q1 0
    have g1 := Joins.cell_of_block q1 1
    have g2 := Joins.cell_of_block q1 2
    have g3 := Joins.cell_of_block q1 3
    have g4 := Joins.cell_of_block q1 4
    go_wp2_with fail
    refine (badP_c _ _ _ _).mono ?_
    rintro e w' ⟨rfl, rfl⟩
    rw [HB.out]
    have f := q2
    have hBu := qb
    clear qb e0 g0 g1 g2 g3 g4 q0 q1 q2 z0 z1 z2
    have k0 := Joins.cell_of_block f 0
    have k1 := Joins.cell_of_block f 1
    have f0 := Joins.unfrozen_of_block f 0
    have f1 := Joins.unfrozen_of_block f 1
    have HP := Lib.hid (put2 (.int .i64 0) (.int .i64 0) f)
    have hz := size_of_block f
    go_wp2_with fail
    refine bodyPost_ret (v := .tuple #[rtV ⟨0, 0⟩, .int .i64 1]) ?_ rfl ⟨rfl, ?_⟩
    · simp [rtV, results, Try.results58, go_sem, HP.out.1, HP.out.2]
    · first | exact hBu | exact (hBu.setCell (by simp; omega) _).setCell (by simp; omega) _

end Go.Proofs.Ytaaeipjnhjgjdaa
