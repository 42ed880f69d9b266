/- The reference's SameKiln, of two values of the same kiln (written by tools/gensrefsk.py). -/
import Derived.Test.YtnedcclmfokdnaaGreatZSRefL
namespace Go.Proofs.YtnedcclmfokdnaaGreat
open Go Go.RowKit Go.Shelf
attribute [local go_sem] Oper.semAt_some Rel RelAt RelUpon

theorem Tryz.inLoadS1 (a b c d : Int) (w : World) (n : Nat) : (Op.equalIn (n + 3) 103 (.agg #[.int .i64 a, .int .i64 b, .int .i64 c, .int .i64 d]) (.agg #[.int .i64 a, .int .i64 b, .int .i64 c, .int .i64 d])).run Tryz.prog w = .ok true w := by
  have u3 := Tryz.underlying3
  have hS : Tryz.prog.underlying 103 = some (.struct (Tryz.prog.fieldsOf 103)) := by kernel_rfl
  have hp : Tryz.prog.stoodInHeld 103 = false := by kernel_rfl
  rw [run_equalIn_agg w (n + 2) 103 _ _ hS hp]
  simp only [Program.fieldsOf, Tryz.underlying103]
  go_simp
theorem Tryz.neLoadS1 (a b c d : Int) (w : World) : (binOp .neq 103 (.agg #[.int .i64 a, .int .i64 b, .int .i64 c, .int .i64 d]) (.agg #[.int .i64 a, .int .i64 b, .int .i64 c, .int .i64 d])).run Tryz.prog w = .ok (.bool false) w := (Tryz.eqOf1 (Tryz.inLoadS1 a b c d w 9997)).2
theorem Tryz.inDrawS1 (a b c d : Int) (w : World) (n : Nat) : (Op.equalIn (n + 3) 104 (.agg #[.int .i64 a, .int .i64 b, .int .i64 c, .int .i64 d]) (.agg #[.int .i64 a, .int .i64 b, .int .i64 c, .int .i64 d])).run Tryz.prog w = .ok true w := by
  have u3 := Tryz.underlying3
  have hS : Tryz.prog.underlying 104 = some (.struct (Tryz.prog.fieldsOf 104)) := by kernel_rfl
  have hp : Tryz.prog.stoodInHeld 104 = false := by kernel_rfl
  rw [run_equalIn_agg w (n + 2) 104 _ _ hS hp]
  simp only [Program.fieldsOf, Tryz.underlying104]
  go_simp
theorem Tryz.neDrawS1 (a b c d : Int) (w : World) : (binOp .neq 104 (.agg #[.int .i64 a, .int .i64 b, .int .i64 c, .int .i64 d]) (.agg #[.int .i64 a, .int .i64 b, .int .i64 c, .int .i64 d])).run Tryz.prog w = .ok (.bool false) w := (Tryz.eqOf1 (Tryz.inDrawS1 a b c d w 9997)).2
theorem Tryz.inWeighS1 (a b c d e f : Int) (w : World) (n : Nat) : (Op.equalIn (n + 3) 112 (.agg #[.int .i64 a, .int .i64 b, .int .i64 c, .int .i64 d, .int .i64 e, .int .i64 f]) (.agg #[.int .i64 a, .int .i64 b, .int .i64 c, .int .i64 d, .int .i64 e, .int .i64 f])).run Tryz.prog w = .ok true w := by
  have u3 := Tryz.underlying3
  have hS : Tryz.prog.underlying 112 = some (.struct (Tryz.prog.fieldsOf 112)) := by kernel_rfl
  have hp : Tryz.prog.stoodInHeld 112 = false := by kernel_rfl
  rw [run_equalIn_agg w (n + 2) 112 _ _ hS hp]
  simp only [Program.fieldsOf, Tryz.underlying112]
  go_simp
theorem Tryz.neWeighS1 (a b c d e f : Int) (w : World) : (binOp .neq 112 (.agg #[.int .i64 a, .int .i64 b, .int .i64 c, .int .i64 d, .int .i64 e, .int .i64 f]) (.agg #[.int .i64 a, .int .i64 b, .int .i64 c, .int .i64 d, .int .i64 e, .int .i64 f])).run Tryz.prog w = .ok (.bool false) w := (Tryz.eqOf1 (Tryz.inWeighS1 a b c d e f w 9997)).2
set_option maxRecDepth 100000 in
set_option maxHeartbeats 8000000 in
theorem rSameK_c (k : Kl) (v u : Value) (w : World) (hv : Kiln w v k) (hu : Kiln w u k) : Calls Tryz.prog 60 #[v, u] w fun e w' => e = .returned (.bool true) ∧ Below w.heap.size w w' := by
  obtain ⟨A1, c1, A2, c2, A3, c3, rfl⟩ := kilnForm hv
  obtain ⟨B1, d1, B2, d2, B3, d3, rfl⟩ := kilnForm hu
  have HV := Lib.hid hv
  have HU := Lib.hid hu
  clear hv hu
  have e1 : (k.room != k.room) = false := by simp
  have e2 : (k.per != k.per) = false := by simp
  have e3 : ((k.ls.length : Int) != k.ls.length) = false := by simp
  have e4 : ((k.ds.length : Int) != k.ds.length) = false := by simp
  have e5 : ((k.ws.length : Int) != k.ws.length) = false := by simp
  go_enter Tryz.func60, Tryz.ntmps60
  obtain ⟨b1, b2, -, HB⟩ := two_new' w (.cells #[.int .i64 k.room, .int .i64 k.per, .slice A1 k.ls.length c1, .slice A2 k.ds.length c2, .slice A3 k.ws.length c3] 26) (.cells #[.int .i64 k.room, .int .i64 k.per, .slice B1 k.ls.length d1, .slice B2 k.ds.length d2, .slice B3 k.ws.length d3] 26)
  have cb10 := Joins.cell_of_block b1 0
  have cb11 := Joins.cell_of_block b1 1
  have cb12 := Joins.cell_of_block b1 2
  have cb13 := Joins.cell_of_block b1 3
  have cb14 := Joins.cell_of_block b1 4
  have zb1 := size_of_block b1
  have cb20 := Joins.cell_of_block b2 0
  have cb21 := Joins.cell_of_block b2 1
  have cb22 := Joins.cell_of_block b2 2
  have cb23 := Joins.cell_of_block b2 3
  have cb24 := Joins.cell_of_block b2 4
  have zb2 := size_of_block b2
  go_wp2_with fail
  clear cb10 cb11 cb12 cb13 cb14 cb20 cb21 cb22 cb23 cb24 zb1 zb2 e1 e2 e3 e4 e5
  have Q1 := Lib.hid b1
  have Q2 := Lib.hid b2
  have HB0 := Lib.hid HB
  clear b1 b2 HB
  generalize (w.alloc _).alloc _ = w1 at Q1 Q2 HB0 ⊢
  go_loopw [5] (fun n9 wr => ∃ j : Nat, j ≤ k.ls.length ∧ n9 = .int .i64 j ∧ Below w.heap.size w wr ∧ Hid (wr.heap[w.heap.size]? = some (.cells #[.int .i64 k.room, .int .i64 k.per, .slice A1 k.ls.length c1, .slice A2 k.ds.length c2, .slice A3 k.ws.length c3] 26) ∧ wr.heap[w.heap.size + 1]? = some (.cells #[.int .i64 k.room, .int .i64 k.per, .slice B1 k.ls.length d1, .slice B2 k.ds.length d2, .slice B3 k.ws.length d3] 26))) (fun n9 _ => k.ls.length - (intOf n9).toNat)
  case atStart => exact ⟨0, Nat.zero_le _, rfl, HB0.out, Lib.hid ⟨Q1.out, Q2.out⟩⟩
  case round =>
    clear HB0 Q1 Q2
    obtain ⟨j, hj, rfl, hB, hQ⟩ := hrel
    obtain ⟨q1, q2⟩ := hQ.out
    clear hQ
    by_cases hlt : j < k.ls.length
    · have hkv := HV.out.later hB
      obtain ⟨al, ad, aw, e9, hl, hd, hw⟩ := hkv
      obtain ⟨rfl, rfl, rfl⟩ : .slice A1 k.ls.length c1 = al ∧ .slice A2 k.ds.length c2 = ad ∧ .slice A3 k.ws.length c3 = aw := by simpa using e9
      obtain ⟨A', c', e8, _, hln, hat⟩ := hl.open_
      obtain ⟨rfl, rfl⟩ : A1 = A' ∧ c1 = c' := by simpa using e8
      obtain ⟨s1, o1, t, hA1, hs1, hx, a0, a1, a2, a3⟩ := hat j hlt
      have HA1 := Lib.hid hA1
      have hLN := hln
      clear hat hl hd hw e8 e9 hln hA1
      have hku := HU.out.later hB
      obtain ⟨al, ad, aw, e9, hl, hd, hw⟩ := hku
      obtain ⟨rfl, rfl, rfl⟩ : .slice B1 k.ls.length d1 = al ∧ .slice B2 k.ds.length d2 = ad ∧ .slice B3 k.ws.length d3 = aw := by simpa using e9
      obtain ⟨A', c', e8, _, hln, hat⟩ := hl.open_
      obtain ⟨rfl, rfl⟩ : B1 = A' ∧ d1 = c' := by simpa using e8
      obtain ⟨s2, o2, t', hA2, hs2, hx2, e0, e1, e2, e3⟩ := hat j hlt
      have HA2 := Lib.hid hA2
      clear hat hl hd hw e8 e9 hln hA2
      obtain rfl : t = t' := by rw [hx] at hx2; simpa using hx2
      clear hx hx2
      have ha1 := HA1.out
      subst ha1
      have ha2 := HA2.out
      subst ha2
      clear HA1 HA2
      obtain ⟨t0, t1, t2, t3⟩ := t
      simp only at a0 a1 a2 a3 e0 e1 e2 e3
      have g1 := Joins.cell_of_block q1 2
      have g2 := Joins.cell_of_block q2 2
      have zq1 := size_of_block q1
      have zq2 := size_of_block q2
      go_wp2_with fail
      refine wp_region_looseM [2, 7] [0, 1, 3, 4, 5, 6, 8, 9, 10] .done [] [] [] [] [] (by kernel_rfl) (by kernel_rfl) (by intro c a d v w h; cases d <;> exact h) (by intro c a d v w h; cases d <;> exact h) rfl (fun r i h => by simp at h) ?_
      simp only [pick, List.filterMap_cons, List.filterMap_nil, List.getElem?_toArray, List.getElem?_cons_succ, List.getElem?_cons_zero]
      refine wpPure_step (.int .i64 j) rfl (fun u => by first | rfl | kernel_rfl | simp [execOp, go_sem]) ?_
      refine wpPure_step (.int .i64 j) rfl (fun u => by first | rfl | kernel_rfl | simp [execOp, go_sem]) ?_
      intro U hU
      replace a0 := (hU.cell (p := ⟨s1, o1 + j * 4, none⟩) hs1).trans a0
      replace a1 := (hU.cell (p := ⟨s1, o1 + j * 4 + 1, none⟩) hs1).trans a1
      replace a2 := (hU.cell (p := ⟨s1, o1 + j * 4 + 2, none⟩) hs1).trans a2
      replace a3 := (hU.cell (p := ⟨s1, o1 + j * 4 + 3, none⟩) hs1).trans a3
      replace e0 := (hU.cell (p := ⟨s2, o2 + j * 4, none⟩) hs2).trans e0
      replace e1 := (hU.cell (p := ⟨s2, o2 + j * 4 + 1, none⟩) hs2).trans e1
      replace e2 := (hU.cell (p := ⟨s2, o2 + j * 4 + 2, none⟩) hs2).trans e2
      replace e3 := (hU.cell (p := ⟨s2, o2 + j * 4 + 3, none⟩) hs2).trans e3
      replace hs1 := Nat.lt_of_lt_of_le hs1 hU.size
      replace hs2 := Nat.lt_of_lt_of_le hs2 hU.size
      replace q1 := (hU.block _ zq1).trans q1
      replace q2 := (hU.block _ zq2).trans q2
      replace hB := below_then hB hU
      clear g1 g2 zq1 zq2
      have g1 := Joins.cell_of_block q1 2
      have g2 := Joins.cell_of_block q2 2
      have zq1 := size_of_block q1
      have zq2 := size_of_block q2
      have hcg : ∀ (g : Gr U) b o, b < U.heap.size → g.val.cell? ⟨b, o, none⟩ = U.cell? ⟨b, o, none⟩ := fun g b o h => (bcell g.b).1 b o h
      iterate 8 (refine wpRel_step (fun K hK => ?_); go_simp; refine hK _ ?_; clear hK K)
      refine wpRel_val (.bool false) (by kernel_rfl) (fun g => by simp [execOp, go_sem, Tryz.neLoadS1]) ?_
      refine wpRel_nil fun V hV => ?_
      clear hcg g1 g2 a0 a1 a2 a3 e0 e1 e2 e3
      replace q1 := (hV.block _ zq1).trans q1
      replace q2 := (hV.block _ zq2).trans q2
      replace hB := below_then hB hV
      clear hV hU zq1 zq2
      show wpPure _ _ _ _
      intro ks hks _ _
      obtain rfl : ks = [] := List.length_eq_zero_iff.1 hks
      clear hks
      show wpList _ _ _ _ _ _
      simp only [deco]
      go_wp2_with fail
      go_roundw
      case rel => exact ⟨j + 1, by omega, by go_num, hB, Lib.hid ⟨q1, q2⟩⟩
      case measure => simp [intOf]; omega
    · obtain rfl : j = k.ls.length := by omega
      have g1 := Joins.cell_of_block q1 2
      have zq1 := size_of_block q1
      go_wp2_with fail
      have HB0 := Lib.hid hB
      have Q1 := Lib.hid q1
      have Q2 := Lib.hid q2
      clear hB q1 q2 g1 zq1
      go_loopw [6] (fun n9 wr => ∃ j : Nat, j ≤ k.ds.length ∧ n9 = .int .i64 j ∧ Below w.heap.size w wr ∧ Hid (wr.heap[w.heap.size]? = some (.cells #[.int .i64 k.room, .int .i64 k.per, .slice A1 k.ls.length c1, .slice A2 k.ds.length c2, .slice A3 k.ws.length c3] 26) ∧ wr.heap[w.heap.size + 1]? = some (.cells #[.int .i64 k.room, .int .i64 k.per, .slice B1 k.ls.length d1, .slice B2 k.ds.length d2, .slice B3 k.ws.length d3] 26))) (fun n9 _ => k.ds.length - (intOf n9).toNat)
      case atStart => exact ⟨0, Nat.zero_le _, rfl, HB0.out, Lib.hid ⟨Q1.out, Q2.out⟩⟩
      case round =>
        clear HB0 Q1 Q2
        obtain ⟨j, hj, rfl, hB, hQ⟩ := hrel
        obtain ⟨q1, q2⟩ := hQ.out
        clear hQ
        by_cases hlt : j < k.ds.length
        · have hkv := HV.out.later hB
          obtain ⟨al, ad, aw, e9, hl, hd, hw⟩ := hkv
          obtain ⟨rfl, rfl, rfl⟩ : .slice A1 k.ls.length c1 = al ∧ .slice A2 k.ds.length c2 = ad ∧ .slice A3 k.ws.length c3 = aw := by simpa using e9
          obtain ⟨A', c', e8, _, hln, hat⟩ := hd.open_
          obtain ⟨rfl, rfl⟩ : A2 = A' ∧ c2 = c' := by simpa using e8
          obtain ⟨s1, o1, t, hA1, hs1, hx, a0, a1, a2, a3⟩ := hat j hlt
          have HA1 := Lib.hid hA1
          have hLN := hln
          clear hat hl hd hw e8 e9 hln hA1
          have hku := HU.out.later hB
          obtain ⟨al, ad, aw, e9, hl, hd, hw⟩ := hku
          obtain ⟨rfl, rfl, rfl⟩ : .slice B1 k.ls.length d1 = al ∧ .slice B2 k.ds.length d2 = ad ∧ .slice B3 k.ws.length d3 = aw := by simpa using e9
          obtain ⟨A', c', e8, _, hln, hat⟩ := hd.open_
          obtain ⟨rfl, rfl⟩ : B2 = A' ∧ d2 = c' := by simpa using e8
          obtain ⟨s2, o2, t', hA2, hs2, hx2, e0, e1, e2, e3⟩ := hat j hlt
          have HA2 := Lib.hid hA2
          clear hat hl hd hw e8 e9 hln hA2
          obtain rfl : t = t' := by rw [hx] at hx2; simpa using hx2
          clear hx hx2
          have ha1 := HA1.out
          subst ha1
          have ha2 := HA2.out
          subst ha2
          clear HA1 HA2
          obtain ⟨t0, t1, t2, t3⟩ := t
          simp only at a0 a1 a2 a3 e0 e1 e2 e3
          have g1 := Joins.cell_of_block q1 3
          have g2 := Joins.cell_of_block q2 3
          have zq1 := size_of_block q1
          have zq2 := size_of_block q2
          go_wp2_with fail
          refine wp_region_looseM [2, 7] [0, 1, 3, 4, 5, 6, 8, 9, 10] .done [] [] [] [] [] (by kernel_rfl) (by kernel_rfl) (by intro c a d v w h; cases d <;> exact h) (by intro c a d v w h; cases d <;> exact h) rfl (fun r i h => by simp at h) ?_
          simp only [pick, List.filterMap_cons, List.filterMap_nil, List.getElem?_toArray, List.getElem?_cons_succ, List.getElem?_cons_zero]
          refine wpPure_step (.int .i64 j) rfl (fun u => by first | rfl | kernel_rfl | simp [execOp, go_sem]) ?_
          refine wpPure_step (.int .i64 j) rfl (fun u => by first | rfl | kernel_rfl | simp [execOp, go_sem]) ?_
          intro U hU
          replace a0 := (hU.cell (p := ⟨s1, o1 + j * 4, none⟩) hs1).trans a0
          replace a1 := (hU.cell (p := ⟨s1, o1 + j * 4 + 1, none⟩) hs1).trans a1
          replace a2 := (hU.cell (p := ⟨s1, o1 + j * 4 + 2, none⟩) hs1).trans a2
          replace a3 := (hU.cell (p := ⟨s1, o1 + j * 4 + 3, none⟩) hs1).trans a3
          replace e0 := (hU.cell (p := ⟨s2, o2 + j * 4, none⟩) hs2).trans e0
          replace e1 := (hU.cell (p := ⟨s2, o2 + j * 4 + 1, none⟩) hs2).trans e1
          replace e2 := (hU.cell (p := ⟨s2, o2 + j * 4 + 2, none⟩) hs2).trans e2
          replace e3 := (hU.cell (p := ⟨s2, o2 + j * 4 + 3, none⟩) hs2).trans e3
          replace hs1 := Nat.lt_of_lt_of_le hs1 hU.size
          replace hs2 := Nat.lt_of_lt_of_le hs2 hU.size
          replace q1 := (hU.block _ zq1).trans q1
          replace q2 := (hU.block _ zq2).trans q2
          replace hB := below_then hB hU
          clear g1 g2 zq1 zq2
          have g1 := Joins.cell_of_block q1 3
          have g2 := Joins.cell_of_block q2 3
          have zq1 := size_of_block q1
          have zq2 := size_of_block q2
          have hcg : ∀ (g : Gr U) b o, b < U.heap.size → g.val.cell? ⟨b, o, none⟩ = U.cell? ⟨b, o, none⟩ := fun g b o h => (bcell g.b).1 b o h
          iterate 8 (refine wpRel_step (fun K hK => ?_); go_simp; refine hK _ ?_; clear hK K)
          refine wpRel_val (.bool false) (by kernel_rfl) (fun g => by simp [execOp, go_sem, Tryz.neDrawS1]) ?_
          refine wpRel_nil fun V hV => ?_
          clear hcg g1 g2 a0 a1 a2 a3 e0 e1 e2 e3
          replace q1 := (hV.block _ zq1).trans q1
          replace q2 := (hV.block _ zq2).trans q2
          replace hB := below_then hB hV
          clear hV hU zq1 zq2
          show wpPure _ _ _ _
          intro ks hks _ _
          obtain rfl : ks = [] := List.length_eq_zero_iff.1 hks
          clear hks
          show wpList _ _ _ _ _ _
          simp only [deco]
          go_wp2_with fail
          go_roundw
          case rel => exact ⟨j + 1, by omega, by go_num, hB, Lib.hid ⟨q1, q2⟩⟩
          case measure => simp [intOf]; omega
        · obtain rfl : j = k.ds.length := by omega
          have g1 := Joins.cell_of_block q1 3
          have zq1 := size_of_block q1
          go_wp2_with fail
          have HB0 := Lib.hid hB
          have Q1 := Lib.hid q1
          have Q2 := Lib.hid q2
          clear hB q1 q2 g1 zq1
          go_loopw [7] (fun n9 wr => ∃ j : Nat, j ≤ k.ws.length ∧ n9 = .int .i64 j ∧ Below w.heap.size w wr ∧ Hid (wr.heap[w.heap.size]? = some (.cells #[.int .i64 k.room, .int .i64 k.per, .slice A1 k.ls.length c1, .slice A2 k.ds.length c2, .slice A3 k.ws.length c3] 26) ∧ wr.heap[w.heap.size + 1]? = some (.cells #[.int .i64 k.room, .int .i64 k.per, .slice B1 k.ls.length d1, .slice B2 k.ds.length d2, .slice B3 k.ws.length d3] 26))) (fun n9 _ => k.ws.length - (intOf n9).toNat)
          case atStart => exact ⟨0, Nat.zero_le _, rfl, HB0.out, Lib.hid ⟨Q1.out, Q2.out⟩⟩
          case round =>
            clear HB0 Q1 Q2
            obtain ⟨j, hj, rfl, hB, hQ⟩ := hrel
            obtain ⟨q1, q2⟩ := hQ.out
            clear hQ
            by_cases hlt : j < k.ws.length
            · have hkv := HV.out.later hB
              obtain ⟨al, ad, aw, e9, hl, hd, hw⟩ := hkv
              obtain ⟨rfl, rfl, rfl⟩ : .slice A1 k.ls.length c1 = al ∧ .slice A2 k.ds.length c2 = ad ∧ .slice A3 k.ws.length c3 = aw := by simpa using e9
              obtain ⟨A', c', e8, _, hln, hat⟩ := hw.open_
              obtain ⟨rfl, rfl⟩ : A3 = A' ∧ c3 = c' := by simpa using e8
              obtain ⟨s1, o1, t, hA1, hs1, hx, a0, a1, a2, a3, a4, a5⟩ := hat j hlt
              have HA1 := Lib.hid hA1
              have hLN := hln
              clear hat hl hd hw e8 e9 hln hA1
              have hku := HU.out.later hB
              obtain ⟨al, ad, aw, e9, hl, hd, hw⟩ := hku
              obtain ⟨rfl, rfl, rfl⟩ : .slice B1 k.ls.length d1 = al ∧ .slice B2 k.ds.length d2 = ad ∧ .slice B3 k.ws.length d3 = aw := by simpa using e9
              obtain ⟨A', c', e8, _, hln, hat⟩ := hw.open_
              obtain ⟨rfl, rfl⟩ : B3 = A' ∧ d3 = c' := by simpa using e8
              obtain ⟨s2, o2, t', hA2, hs2, hx2, e0, e1, e2, e3, e4, e5⟩ := hat j hlt
              have HA2 := Lib.hid hA2
              clear hat hl hd hw e8 e9 hln hA2
              obtain rfl : t = t' := by rw [hx] at hx2; simpa using hx2
              clear hx hx2
              have ha1 := HA1.out
              subst ha1
              have ha2 := HA2.out
              subst ha2
              clear HA1 HA2
              obtain ⟨t0, t1, t2, t3, t4, t5⟩ := t
              simp only at a0 a1 a2 a3 a4 a5 e0 e1 e2 e3 e4 e5
              have g1 := Joins.cell_of_block q1 4
              have g2 := Joins.cell_of_block q2 4
              have zq1 := size_of_block q1
              have zq2 := size_of_block q2
              go_wp2_with fail
              refine wp_region_looseM [2, 7] [0, 1, 3, 4, 5, 6, 8, 9, 10] .done [] [] [] [] [] (by kernel_rfl) (by kernel_rfl) (by intro c a d v w h; cases d <;> exact h) (by intro c a d v w h; cases d <;> exact h) rfl (fun r i h => by simp at h) ?_
              simp only [pick, List.filterMap_cons, List.filterMap_nil, List.getElem?_toArray, List.getElem?_cons_succ, List.getElem?_cons_zero]
              refine wpPure_step (.int .i64 j) rfl (fun u => by first | rfl | kernel_rfl | simp [execOp, go_sem]) ?_
              refine wpPure_step (.int .i64 j) rfl (fun u => by first | rfl | kernel_rfl | simp [execOp, go_sem]) ?_
              intro U hU
              replace a0 := (hU.cell (p := ⟨s1, o1 + j * 6, none⟩) hs1).trans a0
              replace a1 := (hU.cell (p := ⟨s1, o1 + j * 6 + 1, none⟩) hs1).trans a1
              replace a2 := (hU.cell (p := ⟨s1, o1 + j * 6 + 2, none⟩) hs1).trans a2
              replace a3 := (hU.cell (p := ⟨s1, o1 + j * 6 + 3, none⟩) hs1).trans a3
              replace a4 := (hU.cell (p := ⟨s1, o1 + j * 6 + 4, none⟩) hs1).trans a4
              replace a5 := (hU.cell (p := ⟨s1, o1 + j * 6 + 5, none⟩) hs1).trans a5
              replace e0 := (hU.cell (p := ⟨s2, o2 + j * 6, none⟩) hs2).trans e0
              replace e1 := (hU.cell (p := ⟨s2, o2 + j * 6 + 1, none⟩) hs2).trans e1
              replace e2 := (hU.cell (p := ⟨s2, o2 + j * 6 + 2, none⟩) hs2).trans e2
              replace e3 := (hU.cell (p := ⟨s2, o2 + j * 6 + 3, none⟩) hs2).trans e3
              replace e4 := (hU.cell (p := ⟨s2, o2 + j * 6 + 4, none⟩) hs2).trans e4
              replace e5 := (hU.cell (p := ⟨s2, o2 + j * 6 + 5, none⟩) hs2).trans e5
              replace hs1 := Nat.lt_of_lt_of_le hs1 hU.size
              replace hs2 := Nat.lt_of_lt_of_le hs2 hU.size
              replace q1 := (hU.block _ zq1).trans q1
              replace q2 := (hU.block _ zq2).trans q2
              replace hB := below_then hB hU
              clear g1 g2 zq1 zq2
              have g1 := Joins.cell_of_block q1 4
              have g2 := Joins.cell_of_block q2 4
              have zq1 := size_of_block q1
              have zq2 := size_of_block q2
              have hcg : ∀ (g : Gr U) b o, b < U.heap.size → g.val.cell? ⟨b, o, none⟩ = U.cell? ⟨b, o, none⟩ := fun g b o h => (bcell g.b).1 b o h
              iterate 8 (refine wpRel_step (fun K hK => ?_); go_simp; refine hK _ ?_; clear hK K)
              refine wpRel_val (.bool false) (by kernel_rfl) (fun g => by simp [execOp, go_sem, Tryz.neWeighS1]) ?_
              refine wpRel_nil fun V hV => ?_
              clear hcg g1 g2 a0 a1 a2 a3 a4 a5 e0 e1 e2 e3 e4 e5
              replace q1 := (hV.block _ zq1).trans q1
              replace q2 := (hV.block _ zq2).trans q2
              replace hB := below_then hB hV
              clear hV hU zq1 zq2
              show wpPure _ _ _ _
              intro ks hks _ _
              obtain rfl : ks = [] := List.length_eq_zero_iff.1 hks
              clear hks
              show wpList _ _ _ _ _ _
              simp only [deco]
              go_wp2_with fail
              go_roundw
              case rel => exact ⟨j + 1, by omega, by go_num, hB, Lib.hid ⟨q1, q2⟩⟩
              case measure => simp [intOf]; omega
            · obtain rfl : j = k.ws.length := by omega
              have g1 := Joins.cell_of_block q1 4
              have zq1 := size_of_block q1
              go_wp2_with fail
              go_ret
              exact ⟨rfl, hB⟩
end Go.Proofs.YtnedcclmfokdnaaGreat
