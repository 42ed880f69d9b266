/- Texts joined: FProgK FProgL FProgM FProgN FProgO FProgP FProgQ FProgSusp FProgY FProgRests FProgR FProgS FSnkM. -/
import Derived.Test.YtjpoacffnpgjdaaGreatJ16
import Derived.Deep.WholeRow
import Derived.Test.YtjpoacffnpgjdaaGreatJ7
import Derived.Test.YtjpoacffnpgjdaaGreatJ14
import Derived.Test.YtjpoacffnpgjdaaGreatJ2
/- What is known by a fire: agrees, known, by the program. -/
namespace Go.Proofs.YtjpoacffnpgjdaaGreat
open Go Go.RowKit Go.Shelf

theorem agrees_c (f : Fi) (S ls : List Lk) (gf : Nat) (lb : Array Value) (w : World) (h : SOk f S ls) (hG : Gives Tryz.prog w.heap.size 0 fireU (.func (.func gf) #[] lb) encLk S w) :
    Calls Tryz.prog 63 #[siV f (.func (.func gf) #[] lb)] w fun e w' => e = .returned (.bool (agreeB f ls)) ∧ Below w.heap.size w w' := by
  have hC := fun W (hb : Below w.heap.size w W) => clash_c f S ls gf lb W h ((hG.later hb).more hb.size)
  have hcl : (clashS f S).is = !agreeB f ls := by rw [clashS_eq h.srt, clash_is]
  unfold siV at hC ⊢
  go_enter Tryz.func63, Tryz.ntmps63
  go_wp2_with fail
  refine (hC _ (below_alloc _ _)).mono ?_
  rintro e w1 ⟨rfl, hb1⟩
  have B1 := below_then (below_alloc w (.cells #[.int .i64 f.rise, .int .i64 f.fall, .int .i64 f.up, .int .i64 f.down, .func (.func gf) #[] lb] 114)) hb1
  rw [hcl]
  generalize (clashS f S).a = a
  generalize (clashS f S).b = b
  clear hcl hC
  go_wp2_with fail
  go_ret
  exact ⟨ret_bool (by simp), B1⟩
/-- The value of a sight, and that it needs no more than what was made from base on. -/
structure Known (f : Fi) (base : Nat) (w : World) (sv : Value) (S : List Lk) : Prop where
  form : ∃ gf lb, sv = siV f (.func (.func gf) #[] lb)
  gives : ∀ gf lb, sv = siV f (.func (.func gf) #[] lb) → ∀ u, (∀ k, base ≤ k → k < w.heap.size → u.heap[k]? = w.heap[k]?) → w.heap.size ≤ u.heap.size → Gives Tryz.prog u.heap.size 0 fireU (.func (.func gf) #[] lb) encLk S u
def noSight : Value := .agg #[.int .i64 0, .int .i64 0, .int .i64 0, .int .i64 0, .nilFunc]
theorem firstE_take {l : List Int} {j : Nat} {x : Int} (hx : l[j]? = some x) (h : firstE (l.take j) = 0) : firstE (l.take (j + 1)) = x ∧ (x ≠ 0 → firstE l = x) := by
  have key : ∀ (l : List Int) (j : Nat), l[j]? = some x → firstE (l.take j) = 0 → firstE (l.take (j + 1)) = x ∧ (x ≠ 0 → firstE l = x) := by
    intro l
    induction l with
    | nil => intro j h; simp at h
    | cons a l ih =>
      intro j hx h
      cases j with
      | zero =>
        simp only [List.getElem?_cons_zero, Option.some.injEq] at hx
        subst hx
        refine ⟨by simp [first1], fun h0 => by simp [firstE, h0]⟩
      | succ j =>
        rw [List.take_succ_cons] at h ⊢
        by_cases ha : a = 0
        · subst ha
          simp only [firstE] at h ⊢
          simpa using ih j (by simpa using hx) (by simpa using h)
        · simp [firstE, ha] at h
  exact key l j hx h
set_option maxRecDepth 100000 in
set_option maxHeartbeats 2000000 in
theorem known_c (f : Fi) (vl ve : Value) (errs : List Int) (w : World) (hl : Lks w w.heap.size vl f.ls) (he : Ints w w.heap.size ve errs) :
    Calls Tryz.prog 77 #[fiV f vl, ve] w fun e w' => ∃ sv, e = .returned (.tuple #[sv, .int .i64 (knownE f errs)]) ∧ (knownE f errs = 0 → ∃ S, SOk f S f.ls ∧ Known f w.heap.size w' sv S) ∧ (knownE f errs ≠ 0 → sv = noSight) ∧ Below w.heap.size w w' := by
  obtain ⟨A, cap, rfl⟩ := hl.form
  obtain ⟨A2, cap2, rfl, _, hn2, hat⟩ := he.open_
  have H := Lib.hid hat
  clear hat he
  obtain ⟨q0, q1, qs, qb⟩ := two_new' w (.cells #[.int .i64 f.rise, .int .i64 f.fall, .int .i64 f.up, .int .i64 f.down, .slice A f.ls.length cap] 24) (.cells #[.int .i64 0, .int .i64 0, .int .i64 0, .int .i64 0, .nilFunc] 114)
  have hC := fun W (hb : Below w.heap.size w W) => Check_c f (fiV f (.slice A f.ls.length cap)) W ⟨_, rfl, hl.later hb⟩
  unfold fiV at hC ⊢
  go_enter Tryz.func77, Tryz.ntmps77
  go_wp2_with fail
  have QS := Lib.hid qs
  clear qs
  generalize (w.alloc _).alloc _ = W2 at q0 q1 QS qb ⊢
  refine (hC W2 qb).mono ?_
  rintro e W3 ⟨rfl, hb3⟩
  replace q0 := (hb3.block _ (size_of_block q0)).trans q0
  replace q1 := (hb3.block _ (size_of_block q1)).trans q1
  replace qb := below_then qb hb3
  by_cases hf : fireI f = 0
  · have d1 : (fireI f != 0) = false := by simpa using hf
    have HF := Lib.hid hf
    clear hf hb3
    go_wp2_with fail
    go_loopw [18] (fun i wr => ∃ j : Nat, j ≤ errs.length ∧ i = .int .i64 j ∧ Hid (firstE (errs.take j) = 0) ∧ W3 = wr) (fun i _ => errs.length - (intOf i).toNat)
    case atStart => exact ⟨0, Nat.zero_le _, rfl, rfl, rfl⟩
    case round =>
      obtain ⟨j, hj, rfl, hq, rfl⟩ := hrel
      by_cases hlt : j < errs.length
      · obtain ⟨b, off, x, rfl, hb0, hx0, c0⟩ := H.out j hlt
        have d0 := (qb.cell (p := ⟨b, off + j, none⟩) hb0).trans c0
        have hzb : b < W3.heap.size := Nat.lt_of_lt_of_le hb0 qb.size
        have hy := Lib.hid (firstE_take hx0 hq.out)
        clear c0 hx0
        by_cases hx : x = 0
        · have d2 : (x != 0) = false := by simpa using hx
          have hz := Lib.hid (show firstE (errs.take (j + 1)) = 0 from hy.out.1.trans hx)
          clear hx
          go_wp2_with fail
          go_roundw
          case rel => exact ⟨j + 1, by omega, by go_num, hz, trivial⟩
          case measure => simp [intOf]; omega
        · have d2 : (x != 0) = true := by simpa using hx
          have hz : Hid (knownE f errs = x) := by show knownE f errs = x; have e := hy.out.2 hx; rw [known_further HF.out (by rw [e]; exact hx), e]
          have hxx := Lib.hid hx
          have HP := Lib.hid (fun j : Nat => cell_setRow_same W3 (w.heap.size + 1) j _ #[.int .i64 0, .int .i64 0, .int .i64 0, .int .i64 0, .nilFunc] _ _ q1)
          clear hx hy
          go_wp2_with (refine wpList_store_rowTo rfl 114 _ _ rfl rfl (w.heap.size + 1) #[.int .i64 0, .int .i64 0, .int .i64 0, .int .i64 0, .nilFunc] rfl rfl 114 _ q1 (by kernel_rfl) rfl (by kernel_rfl) ?_)
          refine bodyPost_ret (v := .tuple #[noSight, .int .i64 x]) ?_ rfl ⟨_, by rw [hz.out], fun h => absurd (hz.out.symm.trans h) hxx.out, fun _ => rfl, below_setRow qb (by omega) _⟩
          simp [results, Tryz.results77, go_sem, HP.out, noSight]
      · obtain rfl : j = errs.length := by omega
        rw [List.take_length] at hq
        have ok := fire_ok HF.out
        have hSO := sightOf_c f (.slice A f.ls.length cap) W3 (hl.later qb) ok.ids (by have := ok.len; omega)
        unfold fiV at hSO
        have s0 := Joins.cell_of_block q0 0
        have s1 := Joins.cell_of_block q0 1
        have s2 := Joins.cell_of_block q0 2
        have s3 := Joins.cell_of_block q0 3
        have s4 := Joins.cell_of_block q0 4
        go_wp2_with fail
        refine hSO.mono ?_
        rintro e w5 ⟨S, gf, lb, rfl, hS, hGv, hb5⟩
        clear hSO s0 s1 s2 s3 s4 q0
        have hk := agrees_c f S f.ls gf lb
        unfold siV at hk ⊢
        have zq := size_of_block q1
        have n5 := hb5.size
        obtain ⟨W6, hW6⟩ : ∃ W6, W6 = w5.alloc (.cells #[.int .i64 f.rise, .int .i64 f.fall, .int .i64 f.up, .int .i64 f.down, .func (.func gf) #[] lb] 114) := ⟨_, rfl⟩
        have hb6 : Below w5.heap.size w5 W6 := by rw [hW6]; exact below_alloc _ _
        have e6 : W6.heap[w5.heap.size]? = some (.cells #[.int .i64 f.rise, .int .i64 f.fall, .int .i64 f.up, .int .i64 f.down, .func (.func gf) #[] lb] 114) := by rw [hW6]; exact heap_alloc_new _ _
        have HW6 := Lib.hid hW6
        clear hW6
        have Q6 := ((below_then hb5 hb6).block _ zq).trans q1
        have B6 := below_then qb (below_then hb5 hb6)
        have G6 := hGv W6 (fun k _ h => hb6.block k h) hb6.size
        have hA := hk W6 ⟨ok.slope, ok.look, hS⟩ G6
        have c0 := Joins.cell_of_block e6 0
        have c1 := Joins.cell_of_block e6 1
        have c2 := Joins.cell_of_block e6 2
        have c3 := Joins.cell_of_block e6 3
        have c4 := Joins.cell_of_block e6 4
        have z6 := size_of_block e6
        have HOK := Lib.hid ok
        have HS := Lib.hid hS
        have HG := Lib.hid hGv
        clear hk G6 ok hS hGv
        go_wp2_with (refine wpList_store_rowTo rfl 114 _ _ rfl rfl w5.heap.size #[.int .i64 f.rise, .int .i64 f.fall, .int .i64 f.up, .int .i64 f.down, .func (.func gf) #[] lb] rfl rfl 114 _ (heap_alloc_new w5 _) (by kernel_rfl) rfl (by kernel_rfl) ?_; rw [World.setRow_alloc_new, ← HW6.out])
        refine hA.mono ?_
        rintro e w7 ⟨rfl, hb7⟩
        have Q7 := (hb7.block _ (size_of_block Q6)).trans Q6
        have e7 := (hb7.block _ z6).trans e6
        have B7 := below_then B6 hb7
        have n6 := hb6.size
        have n7 := hb7.size
        have K7 : Hid (∀ k, k < w5.heap.size → w7.heap[k]? = w5.heap[k]?) := fun k h => (hb7.block k (by omega)).trans (hb6.block k h)
        have hz := size_setRow w7 (w.heap.size + 1)
        clear c0 c1 c2 c3 c4 hA hb7 hb6 e6 Q6
        by_cases hag : agreeB f f.ls = true
        · have HE : Hid (knownE f errs = 0) := known_ok HF.out hq.out hag
          rw [hag]
          clear hag
          have d0 := Joins.cell_of_block e7 0
          have d1' := Joins.cell_of_block e7 1
          have d2' := Joins.cell_of_block e7 2
          have d3' := Joins.cell_of_block e7 3
          have d4' := Joins.cell_of_block e7 4
          have HP := Lib.hid (fun j : Nat => cell_setRow_same w7 (w.heap.size + 1) j _ #[.int .i64 f.rise, .int .i64 f.fall, .int .i64 f.up, .int .i64 f.down, .func (.func gf) #[] lb] _ _ Q7)
          have HK := Lib.hid (fun (k : Nat) (h : k ≠ w.heap.size + 1) => setRow_other w7 (w.heap.size + 1) k #[.int .i64 f.rise, .int .i64 f.fall, .int .i64 f.up, .int .i64 f.down, .func (.func gf) #[] lb] h)
          have HZ := Lib.hid (hz #[.int .i64 f.rise, .int .i64 f.fall, .int .i64 f.up, .int .i64 f.down, .func (.func gf) #[] lb])
          clear hz
          go_wp2_with (refine wpList_store_rowTo rfl 114 _ _ rfl rfl (w.heap.size + 1) #[.int .i64 f.rise, .int .i64 f.fall, .int .i64 f.up, .int .i64 f.down, .func (.func gf) #[] lb] rfl rfl 114 _ Q7 (by kernel_rfl) rfl (by kernel_rfl) ?_)
          refine bodyPost_ret (v := .tuple #[.agg #[.int .i64 f.rise, .int .i64 f.fall, .int .i64 f.up, .int .i64 f.down, .func (.func gf) #[] lb], .int .i64 0]) ?_ rfl ⟨_, by rw [HE.out], fun _ => ⟨S, ⟨HOK.out.slope, HOK.out.look, HS.out⟩, ⟨gf, lb, rfl⟩, fun gf' lb' e u hu hs => ?_⟩, fun h => absurd HE.out h, below_setRow B7 (by omega) _⟩
          · simp [results, Tryz.results77, go_sem, HP.out]
          · have e' : gf = gf' ∧ lb = lb' := by simpa [siV] using e
            obtain ⟨rfl, rfl⟩ := e'
            rw [HZ.out] at hu hs
            exact HG.out u (fun k h1 h2 => (hu k (by omega) (by omega)).trans ((HK.out k (by omega)).trans (K7.out k h2))) (by omega)
        · have hag' : agreeB f f.ls = false := by simpa using hag
          have HE : Hid (knownE f errs = 9) := known_clash HF.out hq.out hag'
          rw [hag']
          clear hag hag'
          have HP := Lib.hid (fun j : Nat => cell_setRow_same w7 (w.heap.size + 1) j _ #[.int .i64 0, .int .i64 0, .int .i64 0, .int .i64 0, .nilFunc] _ _ Q7)
          go_wp2_with (refine wpList_store_rowTo rfl 114 _ _ rfl rfl (w.heap.size + 1) #[.int .i64 0, .int .i64 0, .int .i64 0, .int .i64 0, .nilFunc] rfl rfl 114 _ Q7 (by kernel_rfl) rfl (by kernel_rfl) ?_)
          refine bodyPost_ret (v := .tuple #[noSight, .int .i64 9]) ?_ rfl ⟨_, by rw [HE.out], fun h => absurd (HE.out.symm.trans h) (by omega), fun _ => rfl, below_setRow B7 (by omega) _⟩
          simp [results, Tryz.results77, go_sem, HP.out, noSight]
  · have d1 : (fireI f != 0) = true := by simpa using hf
    have HE : Hid (knownE f errs = fireI f) := known_fire hf
    have HF := Lib.hid hf
    have HP := Lib.hid (fun j : Nat => cell_setRow_same W3 (w.heap.size + 1) j _ #[.int .i64 0, .int .i64 0, .int .i64 0, .int .i64 0, .nilFunc] _ _ q1)
    clear hf hb3
    go_wp2_with (refine wpList_store_rowTo rfl 114 _ _ rfl rfl (w.heap.size + 1) #[.int .i64 0, .int .i64 0, .int .i64 0, .int .i64 0, .nilFunc] rfl rfl 114 _ q1 (by kernel_rfl) rfl (by kernel_rfl) ?_)
    refine bodyPost_ret (v := .tuple #[noSight, .int .i64 (fireI f)]) ?_ rfl ⟨_, by rw [HE.out], fun h => absurd (HE.out.symm.trans h) HF.out, fun _ => rfl, below_setRow qb (by omega) _⟩
    simp [results, Tryz.results77, go_sem, HP.out, noSight]
end Go.Proofs.YtjpoacffnpgjdaaGreat
/- Ends and what else opens with what is known: by the program. -/
namespace Go.Proofs.YtjpoacffnpgjdaaGreat
open Go Go.RowKit Go.Shelf
attribute [local go_sem] Oper.semAt_some Rel RelAt RelUpon

theorem Tryz.zSightSize : (Tryz.prog.info? 114).map (·.size) = some 5 := by kernel_rfl
/-- What is known, as a row of five cells. -/
theorem sight_row {f : Fi} {base : Nat} {w : World} {sv : Value} {e : Int} {ls : List Lk} (hz : e = 0 → ∃ S, SOk f S ls ∧ Known f base w sv S) (hn : e ≠ 0 → sv = noSight) :
    ∃ row, sv = .agg row ∧ row.size = 5 ∧ row.all (·.oneCell') = true := by
  by_cases h : e = 0
  · obtain ⟨S, _, hK⟩ := hz h
    obtain ⟨gf, lb, rfl⟩ := hK.form
    exact ⟨_, rfl, rfl, by kernel_rfl⟩
  · rw [hn h]; exact ⟨_, rfl, rfl, by kernel_rfl⟩
theorem spts1 {w : World} {p : Spt} {k : Nat} {t : TypeId} (h : w.heap[k]? = some (.cells #[.int .i64 p.foot, .int .i64 p.hour] t)) : Spts w w.heap.size (.slice (some ⟨k, 0, none⟩) 1 1) [p] := by
  refine ⟨some ⟨k, 0, none⟩, 1, rfl, by simp, by simp, fun _ => ⟨k, 0, rfl, size_of_block h, fun i x hx j u hu => ?_⟩⟩
  match i, hx with
  | 0, hx =>
    obtain rfl : p = x := by simpa using hx
    match j, hu with
    | 0, hu => cases hu; exact Joins.cell_of_block h 0
    | 1, hu => cases hu; exact Joins.cell_of_block h 1
    | j + 2, hu => simp [sC] at hu
  | i + 1, hx => simp at hx
theorem ints1 {w : World} {n : Int} {k : Nat} {t : TypeId} (h : w.heap[k]? = some (.cells #[.int .i64 n] t)) : Ints w w.heap.size (.slice (some ⟨k, 0, none⟩) 1 1) [n] := by
  refine ⟨some ⟨k, 0, none⟩, 1, rfl, by simp, by simp, fun _ => ⟨k, 0, rfl, size_of_block h, fun i x hx j u hu => ?_⟩⟩
  match i, hx with
  | 0, hx =>
    obtain rfl : n = x := by simpa using hx
    match j, hu with
    | 0, hu => cases hu; exact Joins.cell_of_block h 0
    | j + 1, hu => simp [nC] at hu
  | i + 1, hx => simp at hx
set_option maxRecDepth 100000 in
set_option maxHeartbeats 4000000 in
theorem Ends_c (f : Fi) (vl : Value) (p : Spt) (w : World) (hl : Lks w w.heap.size vl f.ls) :
    Calls Tryz.prog 24 #[fiV f vl, sV p] w fun e w' => e = .returned (.tuple #[bndV (endsR f p), .int .i64 (endsE f p)]) ∧ Below w.heap.size w w' := by
  obtain ⟨A, cap, rfl⟩ := hl.form
  obtain ⟨q0, q1, q2, qs, qb⟩ := three_new w (.cells #[.int .i64 f.rise, .int .i64 f.fall, .int .i64 f.up, .int .i64 f.down, .slice A f.ls.length cap] 24) (.cells #[.int .i64 p.foot, .int .i64 p.hour] 26) (.cells #[.int .i64 0, .int .i64 0, .int .i64 0, .int .i64 0] 56)
  have hK' := fun ve errs W (hb : Below w.heap.size w W) => known_c f (.slice A f.ls.length cap) ve errs W (hl.later hb)
  unfold fiV at hK' ⊢
  unfold sV
  go_enter Tryz.func24, Tryz.ntmps24
  go_wp2_with fail
  have QS := Lib.hid qs
  clear qs
  generalize ((w.alloc _).alloc _).alloc _ = W3 at q0 q1 q2 QS qb ⊢
  refine wp_region_looseN [0, 1] [2, 3, 4, 5] [9] [6, 7, 8] [10, 11] [some 6] [.cells #[.int .i64 0, .int .i64 0, .int .i64 0, .int .i64 0, .nilFunc] 114] (by kernel_rfl) (by kernel_rfl) (by intro c a d v w h; cases d <;> exact h) (by intro c a d v w h; cases d <;> exact h) rfl ?_ ?_
  · intro r i hri
    match r, hri with
    | 0, hri => cases hri; exact ⟨_, _, rfl, rfl, rfl, rfl, fun a u => by simp [execOp, go_sem, ptrV]⟩
  · intro u hu
    replace q0 := (hu.block _ (size_of_block q0)).trans q0
    replace q1 := (hu.block _ (size_of_block q1)).trans q1
    replace q2 := (hu.block _ (size_of_block q2)).trans q2
    replace qb := below_then qb hu
    have z0 := size_of_block q0
    have z1 := size_of_block q1
    have s0 := Joins.cell_of_block q0 0
    have s1 := Joins.cell_of_block q0 1
    have s2 := Joins.cell_of_block q0 2
    have s3 := Joins.cell_of_block q0 3
    have s4 := Joins.cell_of_block q0 4
    have p0 := Joins.cell_of_block q1 0
    have p1 := Joins.cell_of_block q1 1
    have hcg : ∀ (g : Gr u) b o, b < u.heap.size → g.val.cell? ⟨b, o, none⟩ = u.cell? ⟨b, o, none⟩ := fun g b o h => (bcell g.b).1 b o h
    simp only [pick, List.filterMap_cons, List.filterMap_nil, List.getElem?_toArray, List.getElem?_cons_succ, List.getElem?_cons_zero]
    iterate 2 (refine wpRel_step (fun K hK => ?_); go_simp; refine hK _ ?_; clear hK K)
    refine wpRel_nil fun W4 hb4 => ?_
    clear hcg s0 s1 s2 s3 s4 p0 p1
    have B4 := below_then qb hb4
    refine wpChain_step rfl rfl fun K hK => ?_
    go_simp
    refine hK _ _ (below_alloc _ _) fun W5 hu5 => ?_
    clear hK K
    have y5 := (hu5.block _ (by simp)).trans (heap_alloc_new W4 (.cells #[.int .i64 p.foot, .int .i64 p.hour] 26))
    have B5 := below_then B4 (below_then (below_alloc W4 _) hu5)
    refine wpChain_step rfl rfl fun K hK => ?_
    go_simp
    refine (checkSpots_c _ [p] W5 (spts1 y5)).mono ?_
    rintro e W6 ⟨rfl, hb6⟩
    rw [show (if [p].all spotB then (0 : Int) else 1) = spotE p by simp [spotE]]
    refine hK _ _ hb6 fun W7 hu7 => ?_
    clear hK K
    have B7 := below_then B5 (below_then hb6 hu7)
    generalize hpe : spotE p = pe
    refine wpChain_step rfl rfl fun K hK => ?_
    go_simp
    refine hK _ _ (below_alloc _ _) fun W8 hu8 => ?_
    clear hK K
    have y8 := (hu8.block _ (by simp)).trans (heap_alloc_new W7 (.cells #[.int .i64 pe] 30))
    have B8 := below_then B7 (below_then (below_alloc W7 _) hu8)
    refine wpChain_step rfl rfl fun K hK => ?_
    go_simp
    refine (hK' _ [pe] W8 B8 (ints1 y8)).mono ?_
    rintro e W9 ⟨sv, rfl, hz, hn, hb9⟩
    refine hK _ _ hb9 fun W10 hu10 => ?_
    clear hK K
    obtain ⟨row, hrow, h5, h1c⟩ := sight_row hz hn
    have N10 : Hid (∀ k, k < W9.heap.size → W10.heap[k]? = W9.heap[k]?) := fun k h => hu10.block k h
    have B10 := below_then B8 (below_then hb9 hu10)
    have Q1 := ((below_then hb4 (below_then (below_then (below_alloc W4 _) hu5) (below_then hb6 (below_then hu7 (below_then (below_then (below_alloc W7 _) hu8) (below_then hb9 hu10)))))).block _ (size_of_block q1)).trans q1
    have Q2 := ((below_then hb4 (below_then (below_then (below_alloc W4 _) hu5) (below_then hb6 (below_then hu7 (below_then (below_then (below_alloc W7 _) hu8) (below_then hb9 hu10)))))).block _ (size_of_block q2)).trans q2
    have n10 := hu10.size
    have n9 := hb9.size
    clear y5 y8 B4 B5 B7 B8 hb4 hu5 hb6 hu7 hu8 hb9 hu10 hK' q0 q1 q2
    have HZ := Lib.hid hz
    have HN := Lib.hid hn
    have HROW := Lib.hid hrow
    clear hz hn
    generalize hke : knownE f [pe] = ke at HZ HN ⊢
    rw [hrow]
    refine wpPure_step (.tuple #[.agg row, .int .i64 ke]) rfl (fun u => rfl) ?_
    refine wpPure_step (.agg row) rfl (fun u => rfl) ?_
    refine wpPure_step (.int .i64 ke) rfl (fun u => rfl) ?_
    intro ks hk hall hH
    obtain ⟨k1, rfl⟩ : ∃ k1, ks = [some k1] := by
      match ks, hk with
      | [none], _ => exact absurd rfl (hall 0)
      | [some k1], _ => exact ⟨k1, rfl⟩
    obtain ⟨o1, ge1, lt1⟩ := hH.obj 0 k1 rfl
    have ou := hH.out 0 k1 rfl (W8.heap.size, W9.heap.size) (by simp)
    rw [show ([Obj.cells #[.int .i64 0, .int .i64 0, .int .i64 0, .int .i64 0, .nilFunc] 114])[0]? = some (.cells #[.int .i64 0, .int .i64 0, .int .i64 0, .int .i64 0, .nilFunc] 114) from rfl] at o1
    rw [QS.out] at ge1
    clear hH hall hk
    have zk := size_of_block Q2
    have hk1 : k1 ≠ w.heap.size + 1 := by omega
    have hk2 : k1 ≠ w.heap.size + 1 + 1 := by omega
    show wpList _ _ _ _ _ _
    simp only [deco, ptrV]
    refine wpList_store_rowTo rfl 114 _ _ rfl rfl k1 row rfl rfl 114 _ o1 (by rw [Tryz.zSightSize, h5]) (by rw [h5]; rfl) h1c ?_
    have r1 := setRow_heap W10 k1 _ row _ _ o1
    have r2 := (setRow_other W10 k1 (w.heap.size + 1) row (Ne.symm hk1)).trans Q1
    have r3 := (setRow_other W10 k1 (w.heap.size + 1 + 1) row (Ne.symm hk2)).trans Q2
    have B11 := below_setRow B10 (show w.heap.size ≤ k1 by omega) row
    have K11 : Hid (∀ k, W8.heap.size ≤ k → k < W9.heap.size → (W10.setRow k1 row).heap[k]? = W9.heap[k]?) := fun k h1 h2 => (setRow_other W10 k1 k row (by omega)).trans (N10.out k h2)
    have z11 := size_setRow W10 k1 row
    have n11 : W9.heap.size ≤ (W10.setRow k1 row).heap.size := by omega
    generalize W10.setRow k1 row = W11 at r1 r2 r3 B11 K11 n11 z11 ⊢
    clear o1 Q1 Q2 B10 N10 z11 n10 n9 ou lt1
    have HE : Hid (endsE f p = ke) := by show endsE f p = ke; unfold endsE; rw [hpe, hke]
    by_cases h0 : ke = 0
    · obtain ⟨S, hS, hKn⟩ := HZ.out h0
      obtain ⟨gf, lb, hform⟩ := hKn.form
      have hgv := hKn.gives gf lb hform W11 (fun k h1 h2 => K11.out k h1 h2) n11
      obtain rfl : row = #[.int .i64 f.rise, .int .i64 f.fall, .int .i64 f.up, .int .i64 f.down, .func (.func gf) #[] lb] := by
        have e := HROW.out.symm.trans hform
        simpa [siV] using e
      subst h0
      have hp : spotB p = true := by
        have h1 := (known_zero hke).2.1
        rw [first1, ← hpe] at h1
        exact spotE_iff.1 h1
      have HR : Hid (endsR f p = bndI f f.ls p) := by show endsR f p = _; unfold endsR; rw [if_pos HE.out]
      have hB := bounds_c f S f.ls gf lb p W11 hS hp hgv
      unfold siV sV at hB
      clear hgv hKn hform HZ HN HROW K11 hS hpe hke h5 h1c
      have c0 := Joins.cell_of_block r1 0
      have c1 := Joins.cell_of_block r1 1
      have c2 := Joins.cell_of_block r1 2
      have c3 := Joins.cell_of_block r1 3
      have c4 := Joins.cell_of_block r1 4
      have p0 := Joins.cell_of_block r2 0
      have p1 := Joins.cell_of_block r2 1
      clear hp
      go_wp2_with fail
      refine hB.mono ?_
      rintro e W12 ⟨rfl, hb12⟩
      have R3 := (hb12.block _ (size_of_block r3)).trans r3
      have B12 := below_then B11 hb12
      clear hB r1 r2 r3 c0 c1 c2 c3 c4 p0 p1 hb12 B11
      generalize bndI f f.ls p = b at HR ⊢
      unfold bndV
      have HP := Lib.hid (fun j : Nat => cell_setRow_same W12 (w.heap.size + 1 + 1) j _ #[.int .i64 b.lo, .int .i64 b.hi, .int .i64 b.low, .int .i64 b.high] _ _ R3)
      go_wp2_with (refine wpList_store_rowTo rfl 56 _ _ rfl rfl (w.heap.size + 1 + 1) #[.int .i64 b.lo, .int .i64 b.hi, .int .i64 b.low, .int .i64 b.high] rfl rfl 56 _ R3 (by kernel_rfl) rfl (by kernel_rfl) ?_)
      refine bodyPost_ret (v := .tuple #[.agg #[.int .i64 b.lo, .int .i64 b.hi, .int .i64 b.low, .int .i64 b.high], .int .i64 0]) ?_ rfl ⟨by rw [HR.out, HE.out], below_setRow B12 (by omega) _⟩
      simp [results, Tryz.results24, go_sem, HP.out]
    · have d1 : (ke != 0) = true := by simpa using h0
      have HK0 := Lib.hid h0
      have HR : Hid (endsR f p = ⟨0, 0, 0, 0⟩) := by show endsR f p = _; unfold endsR; rw [HE.out, if_neg h0]
      have HP := Lib.hid (fun j : Nat => cell_setRow_same W11 (w.heap.size + 1 + 1) j _ #[.int .i64 0, .int .i64 0, .int .i64 0, .int .i64 0] _ _ r3)
      clear h0 HZ HN HROW K11 hpe hke h5 h1c
      go_wp2_with (refine wpList_store_rowTo rfl 56 _ _ rfl rfl (w.heap.size + 1 + 1) #[.int .i64 0, .int .i64 0, .int .i64 0, .int .i64 0] rfl rfl 56 _ r3 (by kernel_rfl) rfl (by kernel_rfl) ?_)
      refine bodyPost_ret (v := .tuple #[.agg #[.int .i64 0, .int .i64 0, .int .i64 0, .int .i64 0], .int .i64 ke]) ?_ rfl ⟨by rw [HR.out, HE.out], below_setRow B11 (by omega) _⟩
      simp [results, Tryz.results24, go_sem, HP.out]
end Go.Proofs.YtjpoacffnpgjdaaGreat
/- The heats of a list's spots: by the program. -/
namespace Go.Proofs.YtjpoacffnpgjdaaGreat
open Go Go.RowKit Go.Shelf

theorem Tryz.infoIntF : (Tryz.prog.info? 3).map (fun i => (i.zero, i.size, i.bytes)) = some (some (.int .i64 0), 1, 8) := by kernel_rfl
theorem Tryz.fieldEnd0 (a b : Value) (w : World) : (Instr.field 140 (.agg #[a, b]) 0).run Tryz.prog w = .ok a w := by kernel_rfl
set_option maxRecDepth 100000 in
theorem heats_c (lo idf : Spt → Int) (v : Value) (l : List Spt) (g : Nat) (x : Value) (w : World) (hv : Spts w w.heap.size v l) (hlen : l.length ≤ 5000)
    (he : ∀ args w, (callFunc g args).run Tryz.prog w = .ok (.enter g args) w)
    (hT : ∀ p ∈ l, ∀ W, Below w.heap.size w W → Calls Tryz.prog g #[sV p, x] W fun e W' => e = .returned (.agg #[.int .i64 (lo p), .int .i64 (idf p)]) ∧ Below W.heap.size W W') :
    Calls Tryz.prog 88 #[v, .func (.func g) #[] #[x]] w fun e w' => ∃ u, e = .returned u ∧ w'.ownsRow w.heap.size 3 1 u l.length ((l.map lo).map (Value.int .i64)) ∧ Below w.heap.size w w' := by
  obtain ⟨A, cap, rfl, _, hn, hat⟩ := hv.open_
  have H := Lib.hid hat
  clear hat hv
  obtain ⟨i0, hi, hz0, hz1, hz2⟩ := info_parts Tryz.infoIntF
  have HI := Lib.hid hi
  have HI0 := Lib.hid hz0
  have HI1 := Lib.hid hz1
  have HI2 := Lib.hid hz2
  clear hi hz0 hz1 hz2
  have hf0 := Tryz.fieldEnd0
  unfold sV at hT
  go_enter Tryz.func88, Tryz.ntmps88
  go_wp2_with fail
  go_loopw [5, 10] (fun v i wr => ∃ j : Nat, j ≤ l.length ∧ i = .int .i64 j ∧ wr.ownsRow w.heap.size 3 1 v (0 + j) (((l.take j).map lo).map (Value.int .i64)) ∧ Below w.heap.size w wr) (fun _ i _ => l.length - (intOf i).toNat)
  case atStart => exact ⟨0, Nat.zero_le _, rfl, by simpa using World.ownsRow_nil _ _ _ _, Below.refl _ _⟩
  case round =>
    obtain ⟨j, hj, rfl, hown, hbw⟩ := hrel
    have hbs := hbw.size
    by_cases hlt : j < l.length
    · obtain ⟨b, off, p, rfl, hb, hx0, c0, c1⟩ := H.out j hlt
      have hx := Lib.hid hx0
      have d0 := (hbw.cell (p := ⟨b, off + j * 2, none⟩) hb).trans c0
      have d1 := (hbw.cell (p := ⟨b, off + j * 2 + 1, none⟩) hb).trans c1
      have hzb : b < wr.heap.size := Nat.lt_of_lt_of_le hb hbs
      have hTp := hT p (List.mem_of_getElem? hx0)
      clear hx0 c0 c1
      obtain ⟨W2, hW2⟩ : ∃ W2, W2 = wr.alloc (.cells #[.int .i64 p.foot, .int .i64 p.hour] 26) := ⟨_, rfl⟩
      have b2 : Below wr.heap.size wr W2 := by rw [hW2]; exact below_alloc _ _
      have e2 : W2.heap[wr.heap.size]? = some (.cells #[.int .i64 p.foot, .int .i64 p.hour] 26) := by rw [hW2]; exact heap_alloc_new _ _
      have HW2 := Lib.hid hW2
      clear hW2
      have g0 := Joins.cell_of_block e2 0
      have g1 := Joins.cell_of_block e2 1
      have hc := hTp W2 (below_then hbw b2)
      have o2 := own_below hown b2
      have B2 := below_then hbw b2
      have z2 := size_of_block e2
      clear hTp e2 hown hbw b2
      go_wp2_with (refine wpList_store_rowTo rfl 26 _ _ rfl rfl wr.heap.size #[.int .i64 p.foot, .int .i64 p.hour] rfl rfl 26 _ (heap_alloc_new wr _) (by kernel_rfl) rfl (by kernel_rfl) ?_; rw [World.setRow_alloc_new, ← HW2.out])
      refine hc.mono ?_
      rintro e W3 ⟨rfl, hb3⟩
      have o3 := own_below o2 hb3
      have B3 := below_then B2 hb3
      have n3 := B3.size
      clear hc o2 B2 hb3 g0 g1 d0 d1
      go_wp2_with (at_builtin; refine wpList_append_own _ rfl _ _ 27 rfl w.heap.size 3 i0 (.int .i64 0) 1 8 Tryz.underlying27 HI.out HI0.out HI1.out HI2.out rfl (by decide) _ _ _ rfl (o3.alloc _) ⟨W3.heap.size, 0, none⟩ 1 1 [.int .i64 (lo p)] rfl rfl (cell_one_new _ _ _) (one_oneCell rfl) ?c3 ?c4 ?c5 ?_)
      case c3 => unfold maxLen; omega
      case c4 => omega
      case c5 => simp; omega
      intro v' w1 hown' hgrow _
      have hB1 := below_append B3 (by omega) o3 hgrow
      clear hgrow o3 B3
      go_wp2_with fail
      go_roundw
      case rel => exact ⟨j + 1, by omega, by go_num, by simpa [take_snoc hx.out, Nat.add_assoc] using hown', hB1⟩
      case measure => simp [intOf]; omega
    · obtain rfl : j = l.length := by omega
      rw [List.take_length] at hown
      go_wp2_with fail
      go_ret
      exact ⟨_, rfl, by simpa using hown, hbw⟩
end Go.Proofs.YtjpoacffnpgjdaaGreat
/- Coolest, Hottest: by the program (written by tools/genknown.py). -/
namespace Go.Proofs.YtjpoacffnpgjdaaGreat
open Go Go.RowKit Go.Shelf
attribute [local go_sem] Oper.semAt_some Rel RelAt RelUpon

theorem own_weak {w : World} {base base' n s : Nat} {e : TypeId} {v : Value} {xs : List Value} (h : w.ownsRow base e s v n xs) (hb : base' ≤ base) : w.ownsRow base' e s v n xs :=
  ⟨h.1, h.2.imp id fun ⟨g, c, cur, h1, h2, h3⟩ => ⟨g, c, cur, h1, by omega, h3⟩⟩
set_option maxRecDepth 100000 in
set_option maxHeartbeats 4000000 in
theorem Coolest_c (f : Fi) (vl v : Value) (l : List Spt) (w : World) (hl : Lks w w.heap.size vl f.ls) (hv : Spts w w.heap.size v l) :
    Calls Tryz.prog 31 #[fiV f vl, v] w fun e w' => ∃ u, e = .returned (.tuple #[u, .int .i64 (listE f l)]) ∧ w'.ownsRow w.heap.size 3 1 u (coolR f l).length (((coolR f l)).map (Value.int .i64)) ∧ Below w.heap.size w w' := by
  obtain ⟨A, cap, rfl⟩ := hl.form
  have q0 := heap_alloc_new w (.cells #[.int .i64 f.rise, .int .i64 f.fall, .int .i64 f.up, .int .i64 f.down, .slice A f.ls.length cap] 24)
  have qb := below_alloc w (.cells #[.int .i64 f.rise, .int .i64 f.fall, .int .i64 f.up, .int .i64 f.down, .slice A f.ls.length cap] 24)
  have qs := World.size_alloc w (.cells #[.int .i64 f.rise, .int .i64 f.fall, .int .i64 f.up, .int .i64 f.down, .slice A f.ls.length cap] 24)
  have hK' := fun ve errs W (hb : Below w.heap.size w W) => known_c f (.slice A f.ls.length cap) ve errs W (hl.later hb)
  unfold fiV at hK' ⊢
  go_enter Tryz.func31, Tryz.ntmps31
  go_wp2_with fail
  have QS := Lib.hid qs
  clear qs
  generalize w.alloc _ = W3 at q0 QS qb ⊢
  refine wp_region_looseN [0, 1] [2, 3, 4] [8] [5, 6, 7] [9, 10] [some 6] [.cells #[.int .i64 0, .int .i64 0, .int .i64 0, .int .i64 0, .nilFunc] 114] (by kernel_rfl) (by kernel_rfl) (by intro c a d v w h; cases d <;> exact h) (by intro c a d v w h; cases d <;> exact h) rfl ?_ ?_
  · intro r i hri
    match r, hri with
    | 0, hri => cases hri; exact ⟨_, _, rfl, rfl, rfl, rfl, fun a u => by simp [execOp, go_sem, ptrV]⟩
  · intro u hu
    replace q0 := (hu.block _ (size_of_block q0)).trans q0
    replace qb := below_then qb hu
    have zq0 := size_of_block q0
    have cq00 := Joins.cell_of_block q0 0
    have cq01 := Joins.cell_of_block q0 1
    have cq02 := Joins.cell_of_block q0 2
    have cq03 := Joins.cell_of_block q0 3
    have cq04 := Joins.cell_of_block q0 4
    have hcg : ∀ (g : Gr u) b o, b < u.heap.size → g.val.cell? ⟨b, o, none⟩ = u.cell? ⟨b, o, none⟩ := fun g b o h => (bcell g.b).1 b o h
    simp only [pick, List.filterMap_cons, List.filterMap_nil, List.getElem?_toArray, List.getElem?_cons_succ, List.getElem?_cons_zero]
    iterate 2 (refine wpRel_step (fun K hK => ?_); go_simp; refine hK _ ?_; clear hK K)
    refine wpRel_nil fun V0 hb0 => ?_
    clear hcg cq00 cq01 cq02 cq03 cq04
    have C0 := below_then qb hb0
    have D0 := hb0
    refine wpChain_step rfl rfl fun K hK => ?_
    go_simp
    refine (checkList_c v l V0 (hv.later C0)).mono ?_
    rintro e X0 ⟨rfl, hx0⟩
    generalize hpe : spotsI l = pe
    refine hK _ _ hx0 fun V1 hu1 => ?_
    clear hK K
    have S1 := below_then hx0 hu1
    have C1 := below_then C0 S1
    have D1 := below_then D0 S1
    refine wpChain_step rfl rfl fun K hK => ?_
    go_simp
    refine hK _ _ (below_alloc _ _) fun V2 hu2 => ?_
    clear hK K
    have y2 := (hu2.block _ (by simp)).trans (heap_alloc_new V1 (.cells #[.int .i64 pe] 30))
    have S2 := below_then (below_alloc V1 (.cells #[.int .i64 pe] 30)) hu2
    have C2 := below_then C1 S2
    have D2 := below_then D1 S2
    refine wpChain_step rfl rfl fun K hK => ?_
    go_simp
    refine (hK' _ [pe] V2 C2 (ints1 y2)).mono ?_
    rintro e X2 ⟨sv, rfl, hz, hn, hx2⟩
    refine hK _ _ hx2 fun V3 hu3 => ?_
    clear hK K
    have S3 := below_then hx2 hu3
    have C3 := below_then C2 S3
    have D3 := below_then D2 S3
    obtain ⟨row, hrow, h5, h1c⟩ := sight_row hz hn
    have N10 : Hid (∀ k, k < X2.heap.size → V3.heap[k]? = X2.heap[k]?) := fun k h => hu3.block k h
    have Qq0 := (D3.block _ zq0).trans q0
    have n10 := hu3.size
    have n9 := hx2.size
    clear y2 C0 C1 C2 D0 D1 D2 D3 S1 S2 S3 hu1 hu2 hu3 hK' hb0 q0
    have HZ := Lib.hid hz
    have HN := Lib.hid hn
    have HROW := Lib.hid hrow
    clear hz hn
    generalize hke : knownE f [pe] = ke at HZ HN ⊢
    rw [hrow]
    refine wpPure_step (.tuple #[.agg row, .int .i64 ke]) rfl (fun u => rfl) ?_
    refine wpPure_step (.agg row) rfl (fun u => rfl) ?_
    refine wpPure_step (.int .i64 ke) rfl (fun u => rfl) ?_
    intro ks hk hall hH
    obtain ⟨k1, rfl⟩ : ∃ k1, ks = [some k1] := by
      match ks, hk with
      | [none], _ => exact absurd rfl (hall 0)
      | [some k1], _ => exact ⟨k1, rfl⟩
    obtain ⟨o1, ge1, lt1⟩ := hH.obj 0 k1 rfl
    have ou := hH.out 0 k1 rfl (V2.heap.size, X2.heap.size) (by simp)
    rw [show ([Obj.cells #[.int .i64 0, .int .i64 0, .int .i64 0, .int .i64 0, .nilFunc] 114])[0]? = some (.cells #[.int .i64 0, .int .i64 0, .int .i64 0, .int .i64 0, .nilFunc] 114) from rfl] at o1
    rw [QS.out] at ge1
    clear hH hall hk
    have hkq0 : k1 ≠ w.heap.size := by omega
    show wpList _ _ _ _ _ _
    simp only [deco, ptrV]
    refine wpList_store_rowTo rfl 114 _ _ rfl rfl k1 row rfl rfl 114 _ o1 (by rw [Tryz.zSightSize, h5]) (by rw [h5]; rfl) h1c ?_
    have r1 := setRow_heap V3 k1 _ row _ _ o1
    have rq0 := (setRow_other V3 k1 (w.heap.size) row (Ne.symm hkq0)).trans Qq0
    have B11 := below_setRow C3 (show w.heap.size ≤ k1 by omega) row
    have K11 : Hid (∀ k, V2.heap.size ≤ k → k < X2.heap.size → (V3.setRow k1 row).heap[k]? = X2.heap[k]?) := fun k h1 h2 => (setRow_other V3 k1 k row (by omega)).trans (N10.out k h2)
    have z11 := size_setRow V3 k1 row
    have n11 : X2.heap.size ≤ (V3.setRow k1 row).heap.size := by omega
    generalize V3.setRow k1 row = W11 at r1 rq0 B11 K11 n11 z11 ⊢
    clear o1 Qq0 C3 N10 z11 n10 n9 ou lt1
    have HE : Hid (listE f l = ke) := by show listE f l = ke; unfold listE; rw [hpe, hke]
    by_cases h0 : ke = 0
    · obtain ⟨S, hS, hKn⟩ := HZ.out h0
      obtain ⟨gf, lb, hform⟩ := hKn.form
      have hgv := hKn.gives gf lb hform W11 (fun k h1 h2 => K11.out k h1 h2) n11
      obtain rfl : row = #[.int .i64 f.rise, .int .i64 f.fall, .int .i64 f.up, .int .i64 f.down, .func (.func gf) #[] lb] := by
        have e := HROW.out.symm.trans hform
        simpa [siV] using e
      subst h0
      have hsp : l.length ≤ 24 ∧ ∀ p ∈ l, spotB p = true := by
        have h1 := (known_zero hke).2.1
        rw [first1, ← hpe] at h1
        exact spotsI_iff.1 h1
      have HR : Hid (coolR f l = l.map (endLo f f.ls)) := by show coolR f l = _; unfold coolR; rw [if_pos HE.out]
      have hL := low_c f gf lb W11
      unfold siV at hL
      have HSP := Lib.hid hsp
      have HS := Lib.hid hS
      have HG := Lib.hid hgv
      clear hgv hKn hform HZ HN HROW K11 hS hpe hke h5 h1c hsp
      have c0 := Joins.cell_of_block r1 0
      have c1 := Joins.cell_of_block r1 1
      have c2 := Joins.cell_of_block r1 2
      have c3 := Joins.cell_of_block r1 3
      have c4 := Joins.cell_of_block r1 4
      go_wp2_with fail
      refine hL.mono ?_
      rintro e W12 ⟨rfl, hW12⟩
      have y12 : W12.heap[W11.heap.size]? = some (.cells #[.int .i64 f.rise, .int .i64 f.fall, .int .i64 f.up, .int .i64 f.down, .func (.func gf) #[] lb] 114) := by rw [hW12]; exact heap_alloc_new _ _
      have hb12 : Below W11.heap.size W11 W12 := by rw [hW12]; exact below_alloc _ _
      have B12 := below_then B11 hb12
      have g12 := (HG.out.later hb12).more hb12.size
      clear hW12 hL c0 c1 c2 c3 c4
      have hH := heats_c (endLo f f.ls) (lowId f f.ls) v l _ _ W12 (hv.later B12) (by have := HSP.out.1; omega) (enters_of Tryz.func120 (by kernel_rfl) rfl) fun p hp W hW => low1_c f S f.ls gf lb p W11.heap.size W HS.out (HSP.out.2 p hp) ((hW.block _ (size_of_block y12)).trans y12) ((g12.later hW).more hW.size)
      go_wp2_with fail
      refine hH.mono ?_
      rintro e W13 ⟨u13, rfl, hown, hb13⟩
      have B13 := below_then B12 hb13
      have z12 := B12.size
      clear hH y12 hb12 g12 hb13
      go_wp2_with fail
      refine bodyPost_ret (v := .tuple #[u13, .int .i64 0]) ?_ rfl ⟨u13, by rw [HE.out], ?_, B13⟩
      · simp [results, Tryz.results31, go_sem]
      · rw [HR.out, List.length_map]
        exact own_weak hown z12
    · have d1 : (ke != 0) = true := by simpa using h0
      have HR : Hid (coolR f l = []) := by show coolR f l = _; unfold coolR; rw [HE.out, if_neg h0]
      clear h0 HZ HN HROW K11 hpe hke h5 h1c
      go_wp2_with fail
      refine bodyPost_ret (v := .tuple #[.slice none 0 0, .int .i64 ke]) ?_ rfl ⟨_, by rw [HE.out], by rw [HR.out]; exact World.ownsRow_nil _ _ _ _, B11⟩
      simp [results, Tryz.results31, go_sem]
set_option maxRecDepth 100000 in
set_option maxHeartbeats 4000000 in
theorem Hottest_c (f : Fi) (vl v : Value) (l : List Spt) (w : World) (hl : Lks w w.heap.size vl f.ls) (hv : Spts w w.heap.size v l) :
    Calls Tryz.prog 33 #[fiV f vl, v] w fun e w' => ∃ u, e = .returned (.tuple #[u, .int .i64 (listE f l)]) ∧ w'.ownsRow w.heap.size 3 1 u (hotR f l).length (((hotR f l)).map (Value.int .i64)) ∧ Below w.heap.size w w' := by
  obtain ⟨A, cap, rfl⟩ := hl.form
  have q0 := heap_alloc_new w (.cells #[.int .i64 f.rise, .int .i64 f.fall, .int .i64 f.up, .int .i64 f.down, .slice A f.ls.length cap] 24)
  have qb := below_alloc w (.cells #[.int .i64 f.rise, .int .i64 f.fall, .int .i64 f.up, .int .i64 f.down, .slice A f.ls.length cap] 24)
  have qs := World.size_alloc w (.cells #[.int .i64 f.rise, .int .i64 f.fall, .int .i64 f.up, .int .i64 f.down, .slice A f.ls.length cap] 24)
  have hK' := fun ve errs W (hb : Below w.heap.size w W) => known_c f (.slice A f.ls.length cap) ve errs W (hl.later hb)
  unfold fiV at hK' ⊢
  go_enter Tryz.func33, Tryz.ntmps33
  go_wp2_with fail
  have QS := Lib.hid qs
  clear qs
  generalize w.alloc _ = W3 at q0 QS qb ⊢
  refine wp_region_looseN [0, 1] [2, 3, 4] [8] [5, 6, 7] [9, 10] [some 6] [.cells #[.int .i64 0, .int .i64 0, .int .i64 0, .int .i64 0, .nilFunc] 114] (by kernel_rfl) (by kernel_rfl) (by intro c a d v w h; cases d <;> exact h) (by intro c a d v w h; cases d <;> exact h) rfl ?_ ?_
  · intro r i hri
    match r, hri with
    | 0, hri => cases hri; exact ⟨_, _, rfl, rfl, rfl, rfl, fun a u => by simp [execOp, go_sem, ptrV]⟩
  · intro u hu
    replace q0 := (hu.block _ (size_of_block q0)).trans q0
    replace qb := below_then qb hu
    have zq0 := size_of_block q0
    have cq00 := Joins.cell_of_block q0 0
    have cq01 := Joins.cell_of_block q0 1
    have cq02 := Joins.cell_of_block q0 2
    have cq03 := Joins.cell_of_block q0 3
    have cq04 := Joins.cell_of_block q0 4
    have hcg : ∀ (g : Gr u) b o, b < u.heap.size → g.val.cell? ⟨b, o, none⟩ = u.cell? ⟨b, o, none⟩ := fun g b o h => (bcell g.b).1 b o h
    simp only [pick, List.filterMap_cons, List.filterMap_nil, List.getElem?_toArray, List.getElem?_cons_succ, List.getElem?_cons_zero]
    iterate 2 (refine wpRel_step (fun K hK => ?_); go_simp; refine hK _ ?_; clear hK K)
    refine wpRel_nil fun V0 hb0 => ?_
    clear hcg cq00 cq01 cq02 cq03 cq04
    have C0 := below_then qb hb0
    have D0 := hb0
    refine wpChain_step rfl rfl fun K hK => ?_
    go_simp
    refine (checkList_c v l V0 (hv.later C0)).mono ?_
    rintro e X0 ⟨rfl, hx0⟩
    generalize hpe : spotsI l = pe
    refine hK _ _ hx0 fun V1 hu1 => ?_
    clear hK K
    have S1 := below_then hx0 hu1
    have C1 := below_then C0 S1
    have D1 := below_then D0 S1
    refine wpChain_step rfl rfl fun K hK => ?_
    go_simp
    refine hK _ _ (below_alloc _ _) fun V2 hu2 => ?_
    clear hK K
    have y2 := (hu2.block _ (by simp)).trans (heap_alloc_new V1 (.cells #[.int .i64 pe] 30))
    have S2 := below_then (below_alloc V1 (.cells #[.int .i64 pe] 30)) hu2
    have C2 := below_then C1 S2
    have D2 := below_then D1 S2
    refine wpChain_step rfl rfl fun K hK => ?_
    go_simp
    refine (hK' _ [pe] V2 C2 (ints1 y2)).mono ?_
    rintro e X2 ⟨sv, rfl, hz, hn, hx2⟩
    refine hK _ _ hx2 fun V3 hu3 => ?_
    clear hK K
    have S3 := below_then hx2 hu3
    have C3 := below_then C2 S3
    have D3 := below_then D2 S3
    obtain ⟨row, hrow, h5, h1c⟩ := sight_row hz hn
    have N10 : Hid (∀ k, k < X2.heap.size → V3.heap[k]? = X2.heap[k]?) := fun k h => hu3.block k h
    have Qq0 := (D3.block _ zq0).trans q0
    have n10 := hu3.size
    have n9 := hx2.size
    clear y2 C0 C1 C2 D0 D1 D2 D3 S1 S2 S3 hu1 hu2 hu3 hK' hb0 q0
    have HZ := Lib.hid hz
    have HN := Lib.hid hn
    have HROW := Lib.hid hrow
    clear hz hn
    generalize hke : knownE f [pe] = ke at HZ HN ⊢
    rw [hrow]
    refine wpPure_step (.tuple #[.agg row, .int .i64 ke]) rfl (fun u => rfl) ?_
    refine wpPure_step (.agg row) rfl (fun u => rfl) ?_
    refine wpPure_step (.int .i64 ke) rfl (fun u => rfl) ?_
    intro ks hk hall hH
    obtain ⟨k1, rfl⟩ : ∃ k1, ks = [some k1] := by
      match ks, hk with
      | [none], _ => exact absurd rfl (hall 0)
      | [some k1], _ => exact ⟨k1, rfl⟩
    obtain ⟨o1, ge1, lt1⟩ := hH.obj 0 k1 rfl
    have ou := hH.out 0 k1 rfl (V2.heap.size, X2.heap.size) (by simp)
    rw [show ([Obj.cells #[.int .i64 0, .int .i64 0, .int .i64 0, .int .i64 0, .nilFunc] 114])[0]? = some (.cells #[.int .i64 0, .int .i64 0, .int .i64 0, .int .i64 0, .nilFunc] 114) from rfl] at o1
    rw [QS.out] at ge1
    clear hH hall hk
    have hkq0 : k1 ≠ w.heap.size := by omega
    show wpList _ _ _ _ _ _
    simp only [deco, ptrV]
    refine wpList_store_rowTo rfl 114 _ _ rfl rfl k1 row rfl rfl 114 _ o1 (by rw [Tryz.zSightSize, h5]) (by rw [h5]; rfl) h1c ?_
    have r1 := setRow_heap V3 k1 _ row _ _ o1
    have rq0 := (setRow_other V3 k1 (w.heap.size) row (Ne.symm hkq0)).trans Qq0
    have B11 := below_setRow C3 (show w.heap.size ≤ k1 by omega) row
    have K11 : Hid (∀ k, V2.heap.size ≤ k → k < X2.heap.size → (V3.setRow k1 row).heap[k]? = X2.heap[k]?) := fun k h1 h2 => (setRow_other V3 k1 k row (by omega)).trans (N10.out k h2)
    have z11 := size_setRow V3 k1 row
    have n11 : X2.heap.size ≤ (V3.setRow k1 row).heap.size := by omega
    generalize V3.setRow k1 row = W11 at r1 rq0 B11 K11 n11 z11 ⊢
    clear o1 Qq0 C3 N10 z11 n10 n9 ou lt1
    have HE : Hid (listE f l = ke) := by show listE f l = ke; unfold listE; rw [hpe, hke]
    by_cases h0 : ke = 0
    · obtain ⟨S, hS, hKn⟩ := HZ.out h0
      obtain ⟨gf, lb, hform⟩ := hKn.form
      have hgv := hKn.gives gf lb hform W11 (fun k h1 h2 => K11.out k h1 h2) n11
      obtain rfl : row = #[.int .i64 f.rise, .int .i64 f.fall, .int .i64 f.up, .int .i64 f.down, .func (.func gf) #[] lb] := by
        have e := HROW.out.symm.trans hform
        simpa [siV] using e
      subst h0
      have hsp : l.length ≤ 24 ∧ ∀ p ∈ l, spotB p = true := by
        have h1 := (known_zero hke).2.1
        rw [first1, ← hpe] at h1
        exact spotsI_iff.1 h1
      have HR : Hid (hotR f l = l.map (endHi f f.ls)) := by show hotR f l = _; unfold hotR; rw [if_pos HE.out]
      have hL := high_c f gf lb W11
      unfold siV at hL
      have HSP := Lib.hid hsp
      have HS := Lib.hid hS
      have HG := Lib.hid hgv
      clear hgv hKn hform HZ HN HROW K11 hS hpe hke h5 h1c hsp
      have c0 := Joins.cell_of_block r1 0
      have c1 := Joins.cell_of_block r1 1
      have c2 := Joins.cell_of_block r1 2
      have c3 := Joins.cell_of_block r1 3
      have c4 := Joins.cell_of_block r1 4
      go_wp2_with fail
      refine hL.mono ?_
      rintro e W12 ⟨rfl, hW12⟩
      have y12 : W12.heap[W11.heap.size]? = some (.cells #[.int .i64 f.rise, .int .i64 f.fall, .int .i64 f.up, .int .i64 f.down, .func (.func gf) #[] lb] 114) := by rw [hW12]; exact heap_alloc_new _ _
      have hb12 : Below W11.heap.size W11 W12 := by rw [hW12]; exact below_alloc _ _
      have B12 := below_then B11 hb12
      have g12 := (HG.out.later hb12).more hb12.size
      clear hW12 hL c0 c1 c2 c3 c4
      have hH := heats_c (endHi f f.ls) (highId f f.ls) v l _ _ W12 (hv.later B12) (by have := HSP.out.1; omega) (enters_of Tryz.func123 (by kernel_rfl) rfl) fun p hp W hW => high1_c f S f.ls gf lb p W11.heap.size W HS.out (HSP.out.2 p hp) ((hW.block _ (size_of_block y12)).trans y12) ((g12.later hW).more hW.size)
      go_wp2_with fail
      refine hH.mono ?_
      rintro e W13 ⟨u13, rfl, hown, hb13⟩
      have B13 := below_then B12 hb13
      have z12 := B12.size
      clear hH y12 hb12 g12 hb13
      go_wp2_with fail
      refine bodyPost_ret (v := .tuple #[u13, .int .i64 0]) ?_ rfl ⟨u13, by rw [HE.out], ?_, B13⟩
      · simp [results, Tryz.results33, go_sem]
      · rw [HR.out, List.length_map]
        exact own_weak hown z12
    · have d1 : (ke != 0) = true := by simpa using h0
      have HR : Hid (hotR f l = []) := by show hotR f l = _; unfold hotR; rw [HE.out, if_neg h0]
      clear h0 HZ HN HROW K11 hpe hke h5 h1c
      go_wp2_with fail
      refine bodyPost_ret (v := .tuple #[.slice none 0 0, .int .i64 ke]) ?_ rfl ⟨_, by rw [HE.out], by rw [HR.out]; exact World.ownsRow_nil _ _ _ _, B11⟩
      simp [results, Tryz.results33, go_sem]
end Go.Proofs.YtjpoacffnpgjdaaGreat
/- The rows of heats: by the program. -/
namespace Go.Proofs.YtjpoacffnpgjdaaGreat
open Go Go.RowKit Go.Shelf

theorem Tryz.infoSpanF : (Tryz.prog.info? 54).map (fun i => (i.zero, i.size, i.bytes)) = some (some (.agg #[.int .i64 0, .int .i64 0]), 2, 16) := by kernel_rfl
theorem rows_len (hs : List Int) (need : Int) {j : Nat} (hj : j ≤ hs.length) : (rowsF hs need j).length ≤ j := (row_inv hs need j hj).len_
theorem flat_spn (R : List Spn) : (R.flatMap spnC).length = R.length * 2 := by
  induction R with
  | nil => rfl
  | cons r R ih => simp [spnC, ih]; omega
theorem flat_last (R : List Spn) (r : Spn) : ((R ++ [r]).flatMap spnC)[R.length * 2 + 1]? = some (.int .i64 r.hi) := by
  rw [List.flatMap_append, List.getElem?_append_right (by rw [flat_spn]; omega), flat_spn]
  rw [show R.length * 2 + 1 - R.length * 2 = 1 by omega]; rfl
theorem flat_set (R : List Spn) (r : Spn) (n : Int) : ((R ++ [r]).flatMap spnC).set (R.length * 2 + 1) (.int .i64 n) = (R ++ [(⟨r.lo, n⟩ : Spn)]).flatMap spnC := by
  rw [List.flatMap_append, List.set_append_right _ _ (by rw [flat_spn]; omega), flat_spn, show R.length * 2 + 1 - R.length * 2 = 1 by omega, List.flatMap_append]
  rfl
set_option maxRecDepth 100000 in
set_option maxHeartbeats 2000000 in
theorem rows_c (v : Value) (hs : List Int) (need : Int) (w : World) (hv : Ints w w.heap.size v hs) (hlen : hs.length ≤ 5000) :
    Calls Tryz.prog 100 #[v, .int .i64 need] w fun e w' => ∃ u, e = .returned u ∧ w'.ownsRow w.heap.size 54 2 u (rowsI hs need).length ((rowsI hs need).flatMap spnC) ∧ Below w.heap.size w w' := by
  obtain ⟨A, cap, rfl, _, hn, hat⟩ := hv.open_
  have H := Lib.hid hat
  clear hat hv
  obtain ⟨i0, hi, hz0, hz1, hz2⟩ := info_parts Tryz.infoSpanF
  have HI := Lib.hid hi
  have HI0 := Lib.hid hz0
  have HI1 := Lib.hid hz1
  have HI2 := Lib.hid hz2
  clear hi hz0 hz1 hz2
  go_enter Tryz.func100, Tryz.ntmps100
  go_wp2_with fail
  go_loopw [5, 11] (fun v i wr => ∃ j : Nat, j ≤ hs.length ∧ i = .int .i64 j ∧ wr.ownsRow w.heap.size 54 2 v (rowsF hs need j).length ((rowsF hs need j).flatMap spnC) ∧ Below w.heap.size w wr) (fun _ i _ => hs.length - (intOf i).toNat)
  case atStart => exact ⟨0, Nat.zero_le _, rfl, World.ownsRow_nil _ _ _ _, Below.refl _ _⟩
  case round =>
    obtain ⟨j, hj, rfl, hown, hbw⟩ := hrel
    have hbs := hbw.size
    by_cases hlt : j < hs.length
    · obtain ⟨b, off, x, rfl, hb, hx0, c0⟩ := H.out j hlt
      have hx := Lib.hid hx0
      have d0 := (hbw.cell (p := ⟨b, off + j, none⟩) hb).trans c0
      have hzb : b < wr.heap.size := Nat.lt_of_lt_of_le hb hbs
      clear hx0 c0
      have hll := rows_len hs need hj
      by_cases hc : x < need
      · have d1 : decide (x < need) = true := decide_eq_true hc
        rw [← rows_cold hx.out hc] at hown
        clear hll
        go_wp2_with fail
        go_roundw
        case rel => exact ⟨j + 1, by omega, by go_num, hown, hbw⟩
        case measure => simp [intOf]; omega
      · have d1 : decide (x < need) = false := decide_eq_false hc
        have hr := Lib.hid (rows_hot (l := hs) hx.out hc)
        clear hc
        rcases List.eq_nil_or_concat (rowsF hs need j) with hE | ⟨R, r, hE⟩
        · rw [hE] at hown hr hll
          have hr2 : Hid (rowsF hs need (j + 1) = [⟨(j : Int), (j : Int)⟩]) := hr.out.trans (rowStep_none _)
          clear hE hr
          obtain ⟨A', cap', rfl⟩ := own_form hown
          go_wp2_with (at_builtin; refine wpList_append_own _ rfl _ _ 80 rfl w.heap.size 54 i0 (.agg #[.int .i64 0, .int .i64 0]) 2 16 Tryz.underlying80 HI.out HI0.out HI1.out HI2.out rfl (by decide) _ _ _ rfl (hown.alloc _) ⟨wr.heap.size, 0, none⟩ 1 1 [.int .i64 (j : Int), .int .i64 (j : Int)] rfl rfl ?c1 ?c2 ?c3 ?c4 ?c5 ?_)
          case c1 => have := cells_new wr [.int .i64 (j : Int), .int .i64 (j : Int)] 54; simpa using this
          case c2 => intro u hu; simp at hu; rcases hu with rfl | rfl <;> rfl
          case c3 => unfold maxLen; omega
          case c4 => omega
          case c5 => simp; omega
          intro v' w1 hown' hgrow _
          have hB1 := below_append hbw (by omega) hown hgrow
          clear hgrow hown hbw
          go_wp2_with fail
          go_roundw
          case rel => exact ⟨j + 1, by omega, by go_num, by rw [hr2.out]; simpa [spnC, Nat.add_assoc] using hown', hB1⟩
          case measure => simp [intOf]; omega
        · rw [List.concat_eq_append] at hE
          rw [hE] at hown hr hll
          clear hE
          have hl : (R ++ [r]).length = R.length + 1 := by simp
          rw [hl] at hown hll
          have hcell := (hown.form (by omega))
          obtain ⟨g, cap', rfl, hg1, hg2⟩ := hcell
          have c1 := (hown.cellAt (R.length * 2 + 1) (by omega)).trans (flat_last R r)
          have f1 := hown.frozenAt (R.length * 2 + 1)
          have FS := Lib.hid (flat_set R r (j : Int))
          have hst := Lib.hid (hown.stored (R.length * 2 + 1) (.int .i64 (j : Int)))
          by_cases he : r.hi = (j : Int) - 1
          · have hr2 : Hid (rowsF hs need (j + 1) = R ++ [⟨r.lo, (j : Int)⟩]) := hr.out.trans (rowStep_on he)
            have d2 : (r.hi == (j : Int) - 1) = true := by simpa using he
            clear he hr hl
            go_wp2_with fail
            refine ⟨⟨j + 1, by omega, by go_num, ?_, below_set hbw hg1⟩, by simp [intOf]; omega⟩
            rw [hr2.out]
            have h1 := hst.out.1
            rw [FS.out] at h1
            simpa using h1
          · have hr2 : Hid (rowsF hs need (j + 1) = R ++ [r] ++ [⟨(j : Int), (j : Int)⟩]) := hr.out.trans (rowStep_new he)
            have d2 : (r.hi == (j : Int) - 1) = false := by simpa using he
            clear he hr hl hst FS
            go_wp2_with (at_builtin; refine wpList_append_own _ rfl _ _ 80 rfl w.heap.size 54 i0 (.agg #[.int .i64 0, .int .i64 0]) 2 16 Tryz.underlying80 HI.out HI0.out HI1.out HI2.out rfl (by decide) _ _ _ rfl (hown.alloc _) ⟨wr.heap.size, 0, none⟩ 1 1 [.int .i64 (j : Int), .int .i64 (j : Int)] rfl rfl ?c1 ?c2 ?c3 ?c4 ?c5 ?_)
            case c1 => have := cells_new wr [.int .i64 (j : Int), .int .i64 (j : Int)] 54; simpa using this
            case c2 => intro u hu; simp at hu; rcases hu with rfl | rfl <;> rfl
            case c3 => unfold maxLen; omega
            case c4 => omega
            case c5 => simp; omega
            intro v' w1 hown' hgrow _
            have hB1 := below_append hbw (by omega) hown hgrow
            clear hgrow hown hbw
            go_wp2_with fail
            go_roundw
            case rel => exact ⟨j + 1, by omega, by go_num, by rw [hr2.out]; simpa [spnC, Nat.add_assoc] using hown', hB1⟩
            case measure => simp [intOf]; omega
    · obtain rfl : j = hs.length := by omega
      go_wp2_with fail
      go_ret
      exact ⟨_, rfl, hown, hbw⟩
end Go.Proofs.YtjpoacffnpgjdaaGreat
/- The first error of a path: by the program. -/
namespace Go.Proofs.YtjpoacffnpgjdaaGreat
open Go Go.RowKit Go.Shelf

theorem chain_at : ∀ {l : List Spt} {j : Nat} {x y : Spt}, chainB l = true → l[j]? = some x → l[j + 1]? = some y → y.hour = x.hour + 1
  | [], j, x, y, _, hx, _ => by simp at hx
  | [p], j, x, y, _, _, hy => by simp at hy
  | p :: q :: l, 0, x, y, h, hx, hy => by
    simp only [chainB, Bool.and_eq_true, decide_eq_true_eq] at h
    simp at hx hy; subst hx; subst hy; exact h.1
  | p :: q :: l, j + 1, x, y, h, hx, hy => by
    simp only [chainB, Bool.and_eq_true, decide_eq_true_eq] at h
    exact chain_at h.2 (by simpa using hx) (by simpa using hy)
theorem chain_of : ∀ {l : List Spt}, (∀ (j : Nat) x y, l[j]? = some x → l[j + 1]? = some y → y.hour = x.hour + 1) → chainB l = true
  | [], _ => rfl
  | [p], _ => rfl
  | p :: q :: l, h => by
    simp only [chainB, Bool.and_eq_true, decide_eq_true_eq]
    exact ⟨h 0 p q rfl rfl, chain_of fun j x y hx hy => h (j + 1) x y (by simpa using hx) (by simpa using hy)⟩
set_option maxRecDepth 100000 in
set_option maxHeartbeats 2000000 in
theorem CheckPath_c (v : Value) (l : List Spt) (w : World) (hv : Spts w w.heap.size v l) :
    Calls Tryz.prog 44 #[v] w fun e w' => e = .returned (.int .i64 (pathI l)) ∧ Below w.heap.size w w' := by
  have HC := checkSpots_c v l w hv
  obtain ⟨A, cap, rfl, hcap, hn, hat⟩ := hv.open_
  have H := Lib.hid hat
  clear hat hv
  by_cases h2 : 200 < l.length
  · have hd : decide ((l.length : Int) > 200) = true := decide_eq_true (by omega)
    go_enter Tryz.func44, Tryz.ntmps44
    go_wp2_with fail
    go_ret
    exact ⟨ret_int (by unfold pathI; rw [if_pos h2]), Below.refl _ _⟩
  · have hd : decide ((l.length : Int) > 200) = false := decide_eq_false (by omega)
    by_cases h0 : l.length = 0
    · have hd0 : ((l.length : Int) == 0) = true := by simpa using h0
      have HE : Hid (pathI l = 1) := by show pathI l = 1; unfold pathI; rw [if_neg h2, if_pos (List.length_eq_zero_iff.1 h0)]
      clear h0 HC
      go_enter Tryz.func44, Tryz.ntmps44
      go_wp2_with fail
      go_ret
      exact ⟨ret_int HE.out.symm, Below.refl _ _⟩
    · have hd0 : ((l.length : Int) == 0) = false := by simp only [beq_eq_false_iff_ne]; omega
      have hne : l ≠ [] := fun e => h0 (by rw [e]; rfl)
      by_cases ha : l.all spotB = true
      · rw [if_pos ha] at HC
        have HE : Hid (pathI l = if chainB l then 0 else 1) := by show pathI l = _; unfold pathI; rw [if_neg h2, if_neg hne, ha, Bool.true_and]
        have HA := Lib.hid ha
        clear ha hne
        go_enter Tryz.func44, Tryz.ntmps44
        go_wp2_with fail
        refine HC.mono ?_
        rintro e w1 ⟨rfl, hb1⟩
        clear HC
        obtain ⟨b, off, x00, rfl, hb00, _⟩ := H.out 0 (by omega)
        have N1 : Hid (1 ≤ l.length) := (by omega : 1 ≤ l.length)
        have n1 : 1 ≤ l.length := by omega
        have hlen := Lib.hid h2
        clear h0 h2
        go_wp2_with fail
        case inl =>
          have hl1 : l.length = 1 := by have := N1.out; omega
          have HE2 : Hid (pathI l = 0) := by
            show pathI l = 0
            rw [HE.out, if_pos (chain_of fun j x y hx hy => by have := (List.getElem?_eq_some_iff.1 hy).1; omega)]
          obtain ⟨p0, rfl⟩ := List.length_eq_one_iff.1 hl1
          clear hcap hl1
          go_loopw [19] (fun i wr => i = .int .i64 0 ∧ w1 = wr) (fun i _ => 0)
          case atStart => exact ⟨rfl, rfl⟩
          case round =>
            obtain ⟨rfl, rfl⟩ := hrel
            go_wp2_with fail
            go_ret
            exact ⟨ret_int HE2.out.symm, hb1⟩
        case inr =>
          clear hcap
          go_loopw [19] (fun i wr => ∃ j : Nat, j ≤ l.length - 1 ∧ i = .int .i64 j ∧ Hid (∀ (i : Nat) x y, i < j → l[i]? = some x → l[i + 1]? = some y → y.hour = x.hour + 1) ∧ Below w.heap.size w wr) (fun i _ => l.length - 1 - (intOf i).toNat)
          case atStart => exact ⟨0, Nat.zero_le _, rfl, fun i x y h => by omega, hb1⟩
          case round =>
            obtain ⟨j, hj, rfl, hq, hbw⟩ := hrel
            have hbs := hbw.size
            by_cases hlt : j < l.length - 1
            · obtain ⟨b', off', x, e', _, hx0, _, c1⟩ := H.out j (by omega)
              obtain ⟨b2, off2, y, e2, _, hy0, k0, k1⟩ := H.out (j + 1) (by omega)
              cases e'
              cases e2
              have hx := Lib.hid hx0
              have hy := Lib.hid hy0
              have d1 := (hbw.cell (p := ⟨b, off + j * 2 + 1, none⟩) hb00).trans c1
              have g0 : wr.cell? ⟨b, off + 2 + j * 2, none⟩ = some (.int .i64 y.foot) := (hbw.cell (p := ⟨b, off + 2 + j * 2, none⟩) hb00).trans (by rw [show off + 2 + j * 2 = off + (j + 1) * 2 by omega]; exact k0)
              have g1 : wr.cell? ⟨b, off + 2 + j * 2 + 1, none⟩ = some (.int .i64 y.hour) := (hbw.cell (p := ⟨b, off + 2 + j * 2 + 1, none⟩) hb00).trans (by rw [show off + 2 + j * 2 + 1 = off + (j + 1) * 2 + 1 by omega]; exact k1)
              have hzb : b < wr.heap.size := Nat.lt_of_lt_of_le hb00 hbs
              have xb := (spot_iff.1 (List.all_eq_true.1 HA.out x (List.mem_of_getElem? hx0))).2
              obtain ⟨xb1, xb2⟩ := xb
              clear hx0 hy0 c1 k0 k1
              obtain ⟨W2, hW2⟩ : ∃ W2, W2 = wr.alloc (.cells #[.int .i64 y.foot, .int .i64 y.hour] 26) := ⟨_, rfl⟩
              have b2 : Below wr.heap.size wr W2 := by rw [hW2]; exact below_alloc _ _
              have e2 : W2.heap[wr.heap.size]? = some (.cells #[.int .i64 y.foot, .int .i64 y.hour] 26) := by rw [hW2]; exact heap_alloc_new _ _
              have HW2 := Lib.hid hW2
              clear hW2
              have m0 := Joins.cell_of_block e2 0
              have m1 := Joins.cell_of_block e2 1
              have t1 := (b2.cell (p := ⟨b, off + j * 2 + 1, none⟩) hzb).trans d1
              have B2 := below_then hbw b2
              have z2 := size_of_block e2
              have zb2 : b < W2.heap.size := by omega
              clear e2 b2 hbw
              go_wp2_with (refine wpList_store_rowTo rfl 26 _ _ rfl rfl wr.heap.size #[.int .i64 y.foot, .int .i64 y.hour] rfl rfl 26 _ (heap_alloc_new wr _) (by kernel_rfl) rfl (by kernel_rfl) ?_; rw [World.setRow_alloc_new, ← HW2.out])
              have tq : ∀ (g : Gr W2) bb o, bb < W2.heap.size → g.val.cell? ⟨bb, o, none⟩ = W2.cell? ⟨bb, o, none⟩ := fun g b o h => (bcell g.b).1 b o h
              by_cases hc : y.hour = x.hour + 1
              · have d2 : (y.hour != x.hour + 1) = false := by simpa using hc
                have hq2 : Hid (∀ (i : Nat) x y, i < j + 1 → l[i]? = some x → l[i + 1]? = some y → y.hour = x.hour + 1) := fun i x' y' hi hx' hy' => by
                  rcases Nat.lt_succ_iff_lt_or_eq.1 hi with hi | rfl
                  · exact hq.out i x' y' hi hx' hy'
                  · have e1 := hx.out.symm.trans hx'; have e2 := hy.out.symm.trans hy'; cases e1; cases e2; exact hc
                clear hc
                refine wp_region_grown (by kernel_rfl) (by kernel_rfl) fun hcg => ?_
                repeat (go_big_quiet_step (fail))
                refine wpQuiet_nil ?_
                intro _ hw'
                obtain ⟨g, hw''⟩ := hw'
                subst hw''
                go_wp2_with fail
                go_roundw
                case rel => exact ⟨j + 1, by omega, by go_num, hq2, below_then B2 g.b⟩
                case measure => simp [intOf]; omega
              · have d2 : (y.hour != x.hour + 1) = true := by simpa using hc
                have HE2 : Hid (pathI l = 1) := by
                  show pathI l = 1
                  rw [HE.out, if_neg (fun h => hc (chain_at h hx.out hy.out))]
                clear hc
                refine wp_region_grown (by kernel_rfl) (by kernel_rfl) fun hcg => ?_
                repeat (go_big_quiet_step (fail))
                refine wpQuiet_nil ?_
                intro _ hw'
                obtain ⟨g, hw''⟩ := hw'
                subst hw''
                go_wp2_with fail
                go_ret
                exact ⟨ret_int HE2.out.symm, below_then B2 g.b⟩
            · obtain rfl : j = l.length - 1 := by omega
              have HE2 : Hid (pathI l = 0) := by
                show pathI l = 0
                rw [HE.out, if_pos (chain_of fun j x y hx hy => hq.out j x y (by have := (List.getElem?_eq_some_iff.1 hy).1; have := N1.out; omega) hx hy)]
              go_wp2_with fail
              go_ret
              exact ⟨ret_int HE2.out.symm, hbw⟩
      · rw [if_neg ha] at HC
        have HE : Hid (pathI l = 1) := by show pathI l = 1; unfold pathI; rw [if_neg h2, if_neg hne, if_neg]; simp only [Bool.and_eq_true, not_and]; exact fun h => absurd h ha
        clear ha hne
        go_enter Tryz.func44, Tryz.ntmps44
        go_wp2_with fail
        refine HC.mono ?_
        rintro e w1 ⟨rfl, hb1⟩
        clear HC
        go_wp2_with fail
        go_ret
        exact ⟨ret_int HE.out.symm, hb1⟩
end Go.Proofs.YtjpoacffnpgjdaaGreat
/- Surely, Possibly: by the program (written by tools/genknown2.py). -/
namespace Go.Proofs.YtjpoacffnpgjdaaGreat
open Go Go.RowKit Go.Shelf
attribute [local go_sem] Oper.semAt_some Rel RelAt RelUpon

theorem path_zero {l : List Spt} (h : pathI l = 0) : l.length ≤ 200 ∧ ∀ p ∈ l, spotB p = true := by
  unfold pathI at h
  by_cases h1 : 200 < l.length
  · rw [if_pos h1] at h; cases h
  · rw [if_neg h1] at h
    by_cases h2 : l = []
    · rw [if_pos h2] at h; cases h
    · rw [if_neg h2] at h
      by_cases h3 : (l.all spotB && chainB l) = true
      · rw [Bool.and_eq_true] at h3; exact ⟨by omega, List.all_eq_true.1 h3.1⟩
      · rw [if_neg h3] at h; cases h
theorem ints2 {w : World} {n m : Int} {k : Nat} {t : TypeId} (h : w.heap[k]? = some (.cells #[.int .i64 n, .int .i64 m] t)) : Ints w w.heap.size (.slice (some ⟨k, 0, none⟩) 2 2) [n, m] := by
  refine ⟨some ⟨k, 0, none⟩, 2, rfl, by simp, by simp, fun _ => ⟨k, 0, rfl, size_of_block h, fun i x hx j u hu => ?_⟩⟩
  match i, hx with
  | 0, hx =>
    obtain rfl : n = x := by simpa using hx
    match j, hu with
    | 0, hu => cases hu; exact Joins.cell_of_block h 0
    | j + 1, hu => simp [nC] at hu
  | 1, hx =>
    obtain rfl : m = x := by simpa using hx
    match j, hu with
    | 0, hu => cases hu; exact Joins.cell_of_block h 1
    | j + 1, hu => simp [nC] at hu
  | i + 2, hx => simp at hx
set_option maxRecDepth 100000 in
set_option maxHeartbeats 8000000 in
theorem Surely_c (f : Fi) (vl v : Value) (l : List Spt) (need : Int) (w : World) (hl : Lks w w.heap.size vl f.ls) (hv : Spts w w.heap.size v l) :
    Calls Tryz.prog 40 #[fiV f vl, v, .int .i64 need] w fun e w' => ∃ u, e = .returned (.tuple #[u, .int .i64 (sunkE f l need)]) ∧ w'.ownsRow w.heap.size 54 2 u (surelyR f l need).length ((surelyR f l need).flatMap spnC) ∧ Below w.heap.size w w' := by
  obtain ⟨A, cap, rfl⟩ := hl.form
  have q0 := heap_alloc_new w (.cells #[.int .i64 f.rise, .int .i64 f.fall, .int .i64 f.up, .int .i64 f.down, .slice A f.ls.length cap] 24)
  have qb := below_alloc w (.cells #[.int .i64 f.rise, .int .i64 f.fall, .int .i64 f.up, .int .i64 f.down, .slice A f.ls.length cap] 24)
  have qs := World.size_alloc w (.cells #[.int .i64 f.rise, .int .i64 f.fall, .int .i64 f.up, .int .i64 f.down, .slice A f.ls.length cap] 24)
  have hK' := fun ve errs W (hb : Below w.heap.size w W) => known_c f (.slice A f.ls.length cap) ve errs W (hl.later hb)
  unfold fiV at hK' ⊢
  go_enter Tryz.func40, Tryz.ntmps40
  go_wp2_with fail
  have QS := Lib.hid qs
  clear qs
  generalize w.alloc _ = W3 at q0 QS qb ⊢
  generalize hpe1 : pathI l = pe1
  generalize hpe2 : heatE need = pe2
  refine wp_region_looseT [0, 1, 3] (.alt (.one 2 (.one 4 (.one 5 (.one 6 (.one 7 .done))))) (.one 4 (.one 2 (.one 5 (.one 6 (.one 7 .done)))))) [11] [8, 9, 10] [12, 13] [some 8] [.cells #[.int .i64 0, .int .i64 0, .int .i64 0, .int .i64 0, .nilFunc] 114] (by kernel_rfl) (by kernel_rfl) (by intro c a d v w h; cases d <;> exact h) (by intro c a d v w h; cases d <;> exact h) rfl ?_ ?_
  · intro r i hri
    match r, hri with
    | 0, hri => cases hri; exact ⟨_, _, rfl, rfl, rfl, rfl, fun a u => by simp [execOp, go_sem, ptrV]⟩
  · intro u hu
    replace q0 := (hu.block _ (size_of_block q0)).trans q0
    replace qb := below_then qb hu
    have zq0 := size_of_block q0
    have cq00 := Joins.cell_of_block q0 0
    have cq01 := Joins.cell_of_block q0 1
    have cq02 := Joins.cell_of_block q0 2
    have cq03 := Joins.cell_of_block q0 3
    have cq04 := Joins.cell_of_block q0 4
    have hcg : ∀ (g : Gr u) b o, b < u.heap.size → g.val.cell? ⟨b, o, none⟩ = u.cell? ⟨b, o, none⟩ := fun g b o h => (bcell g.b).1 b o h
    simp only [pick, List.filterMap_cons, List.filterMap_nil, List.getElem?_toArray, List.getElem?_cons_succ, List.getElem?_cons_zero]
    iterate 3 (refine wpRel_step (fun K hK => ?_); go_simp; refine hK _ ?_; clear hK K)
    refine wpRel_nil fun V0 hb0 => ?_
    clear hcg cq00 cq01 cq02 cq03 cq04
    have C0 := below_then qb hb0
    have D0 := hb0
    refine wpTr_alt ?_ ?_
    · refine wpTr_step rfl rfl fun K hK => ?_
      go_simp
      refine (CheckPath_c v l V0 (hv.later C0)).mono ?_
      rintro e X0 ⟨rfl, hx0⟩
      rw [hpe1]
      refine hK _ _ hx0 fun V1 hu1 => ?_
      clear hK K
      have S1 := below_then hx0 hu1
      have C1 := below_then C0 S1
      have D1 := below_then D0 S1
      refine wpTr_step rfl rfl fun K hK => ?_
      go_simp
      refine hK _ _ (below_alloc _ _) fun V2 hu2 => ?_
      clear hK K
      have yn := (hu2.block _ (by simp)).trans (heap_alloc_new V1 (.cells #[.int .i64 need] 3))
      have S2 := below_then (below_alloc V1 (.cells #[.int .i64 need] 3)) hu2
      have C2 := below_then C1 S2
      have D2 := below_then D1 S2
      refine wpTr_step rfl rfl fun K hK => ?_
      go_simp
      refine (checkHeats_c _ [need] V2 (ints1 yn)).mono ?_
      rintro e X2 ⟨rfl, hx2⟩
      rw [show (if [need].all heatB then (0 : Int) else 1) = heatE need by simp [heatE], hpe2]
      refine hK _ _ hx2 fun V3 hu3 => ?_
      clear hK K
      have S3 := below_then hx2 hu3
      have C3 := below_then C2 S3
      have D3 := below_then D2 S3
      replace yn := (S3.block _ (size_of_block yn)).trans yn
      refine wpTr_step rfl rfl fun K hK => ?_
      go_simp
      refine hK _ _ (below_alloc _ _) fun V4 hu4 => ?_
      clear hK K
      have ye := (hu4.block _ (by simp)).trans (heap_alloc_new V3 (.cells #[.int .i64 pe1, .int .i64 pe2] 30))
      have S4 := below_then (below_alloc V3 (.cells #[.int .i64 pe1, .int .i64 pe2] 30)) hu4
      have C4 := below_then C3 S4
      have D4 := below_then D3 S4
      replace yn := (S4.block _ (size_of_block yn)).trans yn
      refine wpTr_step rfl rfl fun K hK => ?_
      go_simp
      refine (hK' _ [pe1, pe2] V4 C4 (ints2 ye)).mono ?_
      rintro e X4 ⟨sv, rfl, hz, hn, hx4⟩
      refine hK _ _ hx4 fun V5 hu5 => ?_
      clear hK K
      have S5 := below_then hx4 hu5
      have C5 := below_then C4 S5
      have D5 := below_then D4 S5
      replace yn := (S5.block _ (size_of_block yn)).trans yn
      replace ye := (S5.block _ (size_of_block ye)).trans ye
      obtain ⟨row, hrow, h5, h1c⟩ := sight_row hz hn
      have N10 : Hid (∀ k, k < X4.heap.size → V5.heap[k]? = X4.heap[k]?) := fun k h => hu5.block k h
      have Qq0 := (D5.block _ zq0).trans q0
      have n10 := hu5.size
      have n9 := hx4.size
      clear yn ye C0 C1 C2 C3 C4 D0 D1 D2 D3 D4 D5 S1 S2 S3 S4 S5 hu1 hu2 hu3 hu4 hu5 hK' hb0 q0
      have HZ := Lib.hid hz
      have HN := Lib.hid hn
      have HROW := Lib.hid hrow
      clear hz hn
      generalize hke : knownE f [pe1, pe2] = ke at HZ HN ⊢
      rw [hrow]
      refine wpPure_step (.tuple #[.agg row, .int .i64 ke]) rfl (fun u => rfl) ?_
      refine wpPure_step (.agg row) rfl (fun u => rfl) ?_
      refine wpPure_step (.int .i64 ke) rfl (fun u => rfl) ?_
      intro ks hk hall hH
      obtain ⟨k1, rfl⟩ : ∃ k1, ks = [some k1] := by
        match ks, hk with
        | [none], _ => exact absurd rfl (hall 0)
        | [some k1], _ => exact ⟨k1, rfl⟩
      obtain ⟨o1, ge1, lt1⟩ := hH.obj 0 k1 rfl
      have ou := hH.out 0 k1 rfl (V4.heap.size, X4.heap.size) (by simp)
      rw [show ([Obj.cells #[.int .i64 0, .int .i64 0, .int .i64 0, .int .i64 0, .nilFunc] 114])[0]? = some (.cells #[.int .i64 0, .int .i64 0, .int .i64 0, .int .i64 0, .nilFunc] 114) from rfl] at o1
      rw [QS.out] at ge1
      clear hH hall hk
      have hkq0 : k1 ≠ w.heap.size := by omega
      show wpList _ _ _ _ _ _
      simp only [deco, ptrV]
      refine wpList_store_rowTo rfl 114 _ _ rfl rfl k1 row rfl rfl 114 _ o1 (by rw [Tryz.zSightSize, h5]) (by rw [h5]; rfl) h1c ?_
      have r1 := setRow_heap V5 k1 _ row _ _ o1
      have rq0 := (setRow_other V5 k1 (w.heap.size) row (Ne.symm hkq0)).trans Qq0
      have B11 := below_setRow C5 (show w.heap.size ≤ k1 by omega) row
      have K11 : Hid (∀ k, V4.heap.size ≤ k → k < X4.heap.size → (V5.setRow k1 row).heap[k]? = X4.heap[k]?) := fun k h1 h2 => (setRow_other V5 k1 k row (by omega)).trans (N10.out k h2)
      have z11 := size_setRow V5 k1 row
      have n11 : X4.heap.size ≤ (V5.setRow k1 row).heap.size := by omega
      generalize V5.setRow k1 row = W11 at r1 rq0 B11 K11 n11 z11 ⊢
      clear o1 Qq0 C5 N10 z11 n10 n9 ou lt1
      have HE : Hid (sunkE f l need = ke) := by show sunkE f l need = ke; unfold sunkE; rw [hpe1, hpe2, hke]
      by_cases h0 : ke = 0
      · obtain ⟨S, hS, hKn⟩ := HZ.out h0
        obtain ⟨gf, lb, hform⟩ := hKn.form
        have hgv := hKn.gives gf lb hform W11 (fun k h1 h2 => K11.out k h1 h2) n11
        obtain rfl : row = #[.int .i64 f.rise, .int .i64 f.fall, .int .i64 f.up, .int .i64 f.down, .func (.func gf) #[] lb] := by
          have e := HROW.out.symm.trans hform
          simpa [siV] using e
        subst h0
        have hsp : l.length ≤ 200 ∧ ∀ p ∈ l, spotB p = true := by
          have h1 := (first2.1 (known_zero hke).2.1).1
          rw [← hpe1] at h1
          exact path_zero h1
        have HR : Hid (surelyR f l need = rowsI (l.map (endLo f f.ls)) need) := by show surelyR f l need = _; unfold surelyR lowsI; rw [if_pos HE.out]
        have hL := low_c f gf lb W11
        unfold siV at hL
        have HSP := Lib.hid hsp
        have HS := Lib.hid hS
        have HG := Lib.hid hgv
        clear hgv hKn hform HZ HN HROW K11 hS hpe1 hpe2 hke h5 h1c hsp
        have c0 := Joins.cell_of_block r1 0
        have c1 := Joins.cell_of_block r1 1
        have c2 := Joins.cell_of_block r1 2
        have c3 := Joins.cell_of_block r1 3
        have c4 := Joins.cell_of_block r1 4
        go_wp2_with fail
        refine hL.mono ?_
        rintro e W12 ⟨rfl, hW12⟩
        have y12 : W12.heap[W11.heap.size]? = some (.cells #[.int .i64 f.rise, .int .i64 f.fall, .int .i64 f.up, .int .i64 f.down, .func (.func gf) #[] lb] 114) := by rw [hW12]; exact heap_alloc_new _ _
        have hb12 : Below W11.heap.size W11 W12 := by rw [hW12]; exact below_alloc _ _
        have B12 := below_then B11 hb12
        have g12 := (HG.out.later hb12).more hb12.size
        clear hW12 hL c0 c1 c2 c3 c4
        have hH := heats_c (endLo f f.ls) (lowId f f.ls) v l _ _ W12 (hv.later B12) (by have := HSP.out.1; omega) (enters_of Tryz.func120 (by kernel_rfl) rfl) fun p hp W hW => low1_c f S f.ls gf lb p W11.heap.size W HS.out (HSP.out.2 p hp) ((hW.block _ (size_of_block y12)).trans y12) ((g12.later hW).more hW.size)
        go_wp2_with fail
        refine hH.mono ?_
        rintro e W13 ⟨u13, rfl, hown, hb13⟩
        have B13 := below_then B12 hb13
        have z12 := B13.size
        clear hH y12 hb12 g12 hb13
        have hr := rows_c u13 (l.map (endLo f f.ls)) need W13 (Ints.of_own (by rw [List.length_map]; exact hown) (by rw [List.length_map]; have := HSP.out.1; omega)) (by rw [List.length_map]; have := HSP.out.1; omega)
        clear hown
        go_wp2_with fail
        refine hr.mono ?_
        rintro e W14 ⟨u14, rfl, hown, hb14⟩
        have B14 := below_then B13 hb14
        clear hr hb14
        go_wp2_with fail
        refine bodyPost_ret (v := .tuple #[u14, .int .i64 0]) ?_ rfl ⟨u14, by rw [HE.out], ?_, B14⟩
        · simp [results, Tryz.results40, go_sem]
        · rw [HR.out]
          exact own_weak hown z12
      · have d1 : (ke != 0) = true := by simpa using h0
        have HR : Hid (surelyR f l need = []) := by show surelyR f l need = _; unfold surelyR; rw [HE.out, if_neg h0]
        clear h0 HZ HN HROW K11 hpe1 hpe2 hke h5 h1c
        go_wp2_with fail
        refine bodyPost_ret (v := .tuple #[.slice none 0 0, .int .i64 ke]) ?_ rfl ⟨_, by rw [HE.out], by rw [HR.out]; exact World.ownsRow_nil _ _ _ _, B11⟩
        simp [results, Tryz.results40, go_sem]
    · refine wpTr_step rfl rfl fun K hK => ?_
      go_simp
      refine hK _ _ (below_alloc _ _) fun V1 hu1 => ?_
      clear hK K
      have yn := (hu1.block _ (by simp)).trans (heap_alloc_new V0 (.cells #[.int .i64 need] 3))
      have S1 := below_then (below_alloc V0 (.cells #[.int .i64 need] 3)) hu1
      have C1 := below_then C0 S1
      have D1 := below_then D0 S1
      refine wpTr_step rfl rfl fun K hK => ?_
      go_simp
      refine (CheckPath_c v l V1 (hv.later C1)).mono ?_
      rintro e X1 ⟨rfl, hx1⟩
      rw [hpe1]
      refine hK _ _ hx1 fun V2 hu2 => ?_
      clear hK K
      have S2 := below_then hx1 hu2
      have C2 := below_then C1 S2
      have D2 := below_then D1 S2
      replace yn := (S2.block _ (size_of_block yn)).trans yn
      refine wpTr_step rfl rfl fun K hK => ?_
      go_simp
      refine (checkHeats_c _ [need] V2 (ints1 yn)).mono ?_
      rintro e X2 ⟨rfl, hx2⟩
      rw [show (if [need].all heatB then (0 : Int) else 1) = heatE need by simp [heatE], hpe2]
      refine hK _ _ hx2 fun V3 hu3 => ?_
      clear hK K
      have S3 := below_then hx2 hu3
      have C3 := below_then C2 S3
      have D3 := below_then D2 S3
      replace yn := (S3.block _ (size_of_block yn)).trans yn
      refine wpTr_step rfl rfl fun K hK => ?_
      go_simp
      refine hK _ _ (below_alloc _ _) fun V4 hu4 => ?_
      clear hK K
      have ye := (hu4.block _ (by simp)).trans (heap_alloc_new V3 (.cells #[.int .i64 pe1, .int .i64 pe2] 30))
      have S4 := below_then (below_alloc V3 (.cells #[.int .i64 pe1, .int .i64 pe2] 30)) hu4
      have C4 := below_then C3 S4
      have D4 := below_then D3 S4
      replace yn := (S4.block _ (size_of_block yn)).trans yn
      refine wpTr_step rfl rfl fun K hK => ?_
      go_simp
      refine (hK' _ [pe1, pe2] V4 C4 (ints2 ye)).mono ?_
      rintro e X4 ⟨sv, rfl, hz, hn, hx4⟩
      refine hK _ _ hx4 fun V5 hu5 => ?_
      clear hK K
      have S5 := below_then hx4 hu5
      have C5 := below_then C4 S5
      have D5 := below_then D4 S5
      replace yn := (S5.block _ (size_of_block yn)).trans yn
      replace ye := (S5.block _ (size_of_block ye)).trans ye
      obtain ⟨row, hrow, h5, h1c⟩ := sight_row hz hn
      have N10 : Hid (∀ k, k < X4.heap.size → V5.heap[k]? = X4.heap[k]?) := fun k h => hu5.block k h
      have Qq0 := (D5.block _ zq0).trans q0
      have n10 := hu5.size
      have n9 := hx4.size
      clear yn ye C0 C1 C2 C3 C4 D0 D1 D2 D3 D4 D5 S1 S2 S3 S4 S5 hu1 hu2 hu3 hu4 hu5 hK' hb0 q0
      have HZ := Lib.hid hz
      have HN := Lib.hid hn
      have HROW := Lib.hid hrow
      clear hz hn
      generalize hke : knownE f [pe1, pe2] = ke at HZ HN ⊢
      rw [hrow]
      refine wpPure_step (.tuple #[.agg row, .int .i64 ke]) rfl (fun u => rfl) ?_
      refine wpPure_step (.agg row) rfl (fun u => rfl) ?_
      refine wpPure_step (.int .i64 ke) rfl (fun u => rfl) ?_
      intro ks hk hall hH
      obtain ⟨k1, rfl⟩ : ∃ k1, ks = [some k1] := by
        match ks, hk with
        | [none], _ => exact absurd rfl (hall 0)
        | [some k1], _ => exact ⟨k1, rfl⟩
      obtain ⟨o1, ge1, lt1⟩ := hH.obj 0 k1 rfl
      have ou := hH.out 0 k1 rfl (V4.heap.size, X4.heap.size) (by simp)
      rw [show ([Obj.cells #[.int .i64 0, .int .i64 0, .int .i64 0, .int .i64 0, .nilFunc] 114])[0]? = some (.cells #[.int .i64 0, .int .i64 0, .int .i64 0, .int .i64 0, .nilFunc] 114) from rfl] at o1
      rw [QS.out] at ge1
      clear hH hall hk
      have hkq0 : k1 ≠ w.heap.size := by omega
      show wpList _ _ _ _ _ _
      simp only [deco, ptrV]
      refine wpList_store_rowTo rfl 114 _ _ rfl rfl k1 row rfl rfl 114 _ o1 (by rw [Tryz.zSightSize, h5]) (by rw [h5]; rfl) h1c ?_
      have r1 := setRow_heap V5 k1 _ row _ _ o1
      have rq0 := (setRow_other V5 k1 (w.heap.size) row (Ne.symm hkq0)).trans Qq0
      have B11 := below_setRow C5 (show w.heap.size ≤ k1 by omega) row
      have K11 : Hid (∀ k, V4.heap.size ≤ k → k < X4.heap.size → (V5.setRow k1 row).heap[k]? = X4.heap[k]?) := fun k h1 h2 => (setRow_other V5 k1 k row (by omega)).trans (N10.out k h2)
      have z11 := size_setRow V5 k1 row
      have n11 : X4.heap.size ≤ (V5.setRow k1 row).heap.size := by omega
      generalize V5.setRow k1 row = W11 at r1 rq0 B11 K11 n11 z11 ⊢
      clear o1 Qq0 C5 N10 z11 n10 n9 ou lt1
      have HE : Hid (sunkE f l need = ke) := by show sunkE f l need = ke; unfold sunkE; rw [hpe1, hpe2, hke]
      by_cases h0 : ke = 0
      · obtain ⟨S, hS, hKn⟩ := HZ.out h0
        obtain ⟨gf, lb, hform⟩ := hKn.form
        have hgv := hKn.gives gf lb hform W11 (fun k h1 h2 => K11.out k h1 h2) n11
        obtain rfl : row = #[.int .i64 f.rise, .int .i64 f.fall, .int .i64 f.up, .int .i64 f.down, .func (.func gf) #[] lb] := by
          have e := HROW.out.symm.trans hform
          simpa [siV] using e
        subst h0
        have hsp : l.length ≤ 200 ∧ ∀ p ∈ l, spotB p = true := by
          have h1 := (first2.1 (known_zero hke).2.1).1
          rw [← hpe1] at h1
          exact path_zero h1
        have HR : Hid (surelyR f l need = rowsI (l.map (endLo f f.ls)) need) := by show surelyR f l need = _; unfold surelyR lowsI; rw [if_pos HE.out]
        have hL := low_c f gf lb W11
        unfold siV at hL
        have HSP := Lib.hid hsp
        have HS := Lib.hid hS
        have HG := Lib.hid hgv
        clear hgv hKn hform HZ HN HROW K11 hS hpe1 hpe2 hke h5 h1c hsp
        have c0 := Joins.cell_of_block r1 0
        have c1 := Joins.cell_of_block r1 1
        have c2 := Joins.cell_of_block r1 2
        have c3 := Joins.cell_of_block r1 3
        have c4 := Joins.cell_of_block r1 4
        go_wp2_with fail
        refine hL.mono ?_
        rintro e W12 ⟨rfl, hW12⟩
        have y12 : W12.heap[W11.heap.size]? = some (.cells #[.int .i64 f.rise, .int .i64 f.fall, .int .i64 f.up, .int .i64 f.down, .func (.func gf) #[] lb] 114) := by rw [hW12]; exact heap_alloc_new _ _
        have hb12 : Below W11.heap.size W11 W12 := by rw [hW12]; exact below_alloc _ _
        have B12 := below_then B11 hb12
        have g12 := (HG.out.later hb12).more hb12.size
        clear hW12 hL c0 c1 c2 c3 c4
        have hH := heats_c (endLo f f.ls) (lowId f f.ls) v l _ _ W12 (hv.later B12) (by have := HSP.out.1; omega) (enters_of Tryz.func120 (by kernel_rfl) rfl) fun p hp W hW => low1_c f S f.ls gf lb p W11.heap.size W HS.out (HSP.out.2 p hp) ((hW.block _ (size_of_block y12)).trans y12) ((g12.later hW).more hW.size)
        go_wp2_with fail
        refine hH.mono ?_
        rintro e W13 ⟨u13, rfl, hown, hb13⟩
        have B13 := below_then B12 hb13
        have z12 := B13.size
        clear hH y12 hb12 g12 hb13
        have hr := rows_c u13 (l.map (endLo f f.ls)) need W13 (Ints.of_own (by rw [List.length_map]; exact hown) (by rw [List.length_map]; have := HSP.out.1; omega)) (by rw [List.length_map]; have := HSP.out.1; omega)
        clear hown
        go_wp2_with fail
        refine hr.mono ?_
        rintro e W14 ⟨u14, rfl, hown, hb14⟩
        have B14 := below_then B13 hb14
        clear hr hb14
        go_wp2_with fail
        refine bodyPost_ret (v := .tuple #[u14, .int .i64 0]) ?_ rfl ⟨u14, by rw [HE.out], ?_, B14⟩
        · simp [results, Tryz.results40, go_sem]
        · rw [HR.out]
          exact own_weak hown z12
      · have d1 : (ke != 0) = true := by simpa using h0
        have HR : Hid (surelyR f l need = []) := by show surelyR f l need = _; unfold surelyR; rw [HE.out, if_neg h0]
        clear h0 HZ HN HROW K11 hpe1 hpe2 hke h5 h1c
        go_wp2_with fail
        refine bodyPost_ret (v := .tuple #[.slice none 0 0, .int .i64 ke]) ?_ rfl ⟨_, by rw [HE.out], by rw [HR.out]; exact World.ownsRow_nil _ _ _ _, B11⟩
        simp [results, Tryz.results40, go_sem]
set_option maxRecDepth 100000 in
set_option maxHeartbeats 8000000 in
theorem Possibly_c (f : Fi) (vl v : Value) (l : List Spt) (need : Int) (w : World) (hl : Lks w w.heap.size vl f.ls) (hv : Spts w w.heap.size v l) :
    Calls Tryz.prog 42 #[fiV f vl, v, .int .i64 need] w fun e w' => ∃ u, e = .returned (.tuple #[u, .int .i64 (sunkE f l need)]) ∧ w'.ownsRow w.heap.size 54 2 u (possiblyR f l need).length ((possiblyR f l need).flatMap spnC) ∧ Below w.heap.size w w' := by
  obtain ⟨A, cap, rfl⟩ := hl.form
  have q0 := heap_alloc_new w (.cells #[.int .i64 f.rise, .int .i64 f.fall, .int .i64 f.up, .int .i64 f.down, .slice A f.ls.length cap] 24)
  have qb := below_alloc w (.cells #[.int .i64 f.rise, .int .i64 f.fall, .int .i64 f.up, .int .i64 f.down, .slice A f.ls.length cap] 24)
  have qs := World.size_alloc w (.cells #[.int .i64 f.rise, .int .i64 f.fall, .int .i64 f.up, .int .i64 f.down, .slice A f.ls.length cap] 24)
  have hK' := fun ve errs W (hb : Below w.heap.size w W) => known_c f (.slice A f.ls.length cap) ve errs W (hl.later hb)
  unfold fiV at hK' ⊢
  go_enter Tryz.func42, Tryz.ntmps42
  go_wp2_with fail
  have QS := Lib.hid qs
  clear qs
  generalize w.alloc _ = W3 at q0 QS qb ⊢
  generalize hpe1 : pathI l = pe1
  generalize hpe2 : heatE need = pe2
  refine wp_region_looseT [0, 1, 3] (.alt (.one 2 (.one 4 (.one 5 (.one 6 (.one 7 .done))))) (.one 4 (.one 2 (.one 5 (.one 6 (.one 7 .done)))))) [11] [8, 9, 10] [12, 13] [some 8] [.cells #[.int .i64 0, .int .i64 0, .int .i64 0, .int .i64 0, .nilFunc] 114] (by kernel_rfl) (by kernel_rfl) (by intro c a d v w h; cases d <;> exact h) (by intro c a d v w h; cases d <;> exact h) rfl ?_ ?_
  · intro r i hri
    match r, hri with
    | 0, hri => cases hri; exact ⟨_, _, rfl, rfl, rfl, rfl, fun a u => by simp [execOp, go_sem, ptrV]⟩
  · intro u hu
    replace q0 := (hu.block _ (size_of_block q0)).trans q0
    replace qb := below_then qb hu
    have zq0 := size_of_block q0
    have cq00 := Joins.cell_of_block q0 0
    have cq01 := Joins.cell_of_block q0 1
    have cq02 := Joins.cell_of_block q0 2
    have cq03 := Joins.cell_of_block q0 3
    have cq04 := Joins.cell_of_block q0 4
    have hcg : ∀ (g : Gr u) b o, b < u.heap.size → g.val.cell? ⟨b, o, none⟩ = u.cell? ⟨b, o, none⟩ := fun g b o h => (bcell g.b).1 b o h
    simp only [pick, List.filterMap_cons, List.filterMap_nil, List.getElem?_toArray, List.getElem?_cons_succ, List.getElem?_cons_zero]
    iterate 3 (refine wpRel_step (fun K hK => ?_); go_simp; refine hK _ ?_; clear hK K)
    refine wpRel_nil fun V0 hb0 => ?_
    clear hcg cq00 cq01 cq02 cq03 cq04
    have C0 := below_then qb hb0
    have D0 := hb0
    refine wpTr_alt ?_ ?_
    · refine wpTr_step rfl rfl fun K hK => ?_
      go_simp
      refine (CheckPath_c v l V0 (hv.later C0)).mono ?_
      rintro e X0 ⟨rfl, hx0⟩
      rw [hpe1]
      refine hK _ _ hx0 fun V1 hu1 => ?_
      clear hK K
      have S1 := below_then hx0 hu1
      have C1 := below_then C0 S1
      have D1 := below_then D0 S1
      refine wpTr_step rfl rfl fun K hK => ?_
      go_simp
      refine hK _ _ (below_alloc _ _) fun V2 hu2 => ?_
      clear hK K
      have yn := (hu2.block _ (by simp)).trans (heap_alloc_new V1 (.cells #[.int .i64 need] 3))
      have S2 := below_then (below_alloc V1 (.cells #[.int .i64 need] 3)) hu2
      have C2 := below_then C1 S2
      have D2 := below_then D1 S2
      refine wpTr_step rfl rfl fun K hK => ?_
      go_simp
      refine (checkHeats_c _ [need] V2 (ints1 yn)).mono ?_
      rintro e X2 ⟨rfl, hx2⟩
      rw [show (if [need].all heatB then (0 : Int) else 1) = heatE need by simp [heatE], hpe2]
      refine hK _ _ hx2 fun V3 hu3 => ?_
      clear hK K
      have S3 := below_then hx2 hu3
      have C3 := below_then C2 S3
      have D3 := below_then D2 S3
      replace yn := (S3.block _ (size_of_block yn)).trans yn
      refine wpTr_step rfl rfl fun K hK => ?_
      go_simp
      refine hK _ _ (below_alloc _ _) fun V4 hu4 => ?_
      clear hK K
      have ye := (hu4.block _ (by simp)).trans (heap_alloc_new V3 (.cells #[.int .i64 pe1, .int .i64 pe2] 30))
      have S4 := below_then (below_alloc V3 (.cells #[.int .i64 pe1, .int .i64 pe2] 30)) hu4
      have C4 := below_then C3 S4
      have D4 := below_then D3 S4
      replace yn := (S4.block _ (size_of_block yn)).trans yn
      refine wpTr_step rfl rfl fun K hK => ?_
      go_simp
      refine (hK' _ [pe1, pe2] V4 C4 (ints2 ye)).mono ?_
      rintro e X4 ⟨sv, rfl, hz, hn, hx4⟩
      refine hK _ _ hx4 fun V5 hu5 => ?_
      clear hK K
      have S5 := below_then hx4 hu5
      have C5 := below_then C4 S5
      have D5 := below_then D4 S5
      replace yn := (S5.block _ (size_of_block yn)).trans yn
      replace ye := (S5.block _ (size_of_block ye)).trans ye
      obtain ⟨row, hrow, h5, h1c⟩ := sight_row hz hn
      have N10 : Hid (∀ k, k < X4.heap.size → V5.heap[k]? = X4.heap[k]?) := fun k h => hu5.block k h
      have Qq0 := (D5.block _ zq0).trans q0
      have n10 := hu5.size
      have n9 := hx4.size
      clear yn ye C0 C1 C2 C3 C4 D0 D1 D2 D3 D4 D5 S1 S2 S3 S4 S5 hu1 hu2 hu3 hu4 hu5 hK' hb0 q0
      have HZ := Lib.hid hz
      have HN := Lib.hid hn
      have HROW := Lib.hid hrow
      clear hz hn
      generalize hke : knownE f [pe1, pe2] = ke at HZ HN ⊢
      rw [hrow]
      refine wpPure_step (.tuple #[.agg row, .int .i64 ke]) rfl (fun u => rfl) ?_
      refine wpPure_step (.agg row) rfl (fun u => rfl) ?_
      refine wpPure_step (.int .i64 ke) rfl (fun u => rfl) ?_
      intro ks hk hall hH
      obtain ⟨k1, rfl⟩ : ∃ k1, ks = [some k1] := by
        match ks, hk with
        | [none], _ => exact absurd rfl (hall 0)
        | [some k1], _ => exact ⟨k1, rfl⟩
      obtain ⟨o1, ge1, lt1⟩ := hH.obj 0 k1 rfl
      have ou := hH.out 0 k1 rfl (V4.heap.size, X4.heap.size) (by simp)
      rw [show ([Obj.cells #[.int .i64 0, .int .i64 0, .int .i64 0, .int .i64 0, .nilFunc] 114])[0]? = some (.cells #[.int .i64 0, .int .i64 0, .int .i64 0, .int .i64 0, .nilFunc] 114) from rfl] at o1
      rw [QS.out] at ge1
      clear hH hall hk
      have hkq0 : k1 ≠ w.heap.size := by omega
      show wpList _ _ _ _ _ _
      simp only [deco, ptrV]
      refine wpList_store_rowTo rfl 114 _ _ rfl rfl k1 row rfl rfl 114 _ o1 (by rw [Tryz.zSightSize, h5]) (by rw [h5]; rfl) h1c ?_
      have r1 := setRow_heap V5 k1 _ row _ _ o1
      have rq0 := (setRow_other V5 k1 (w.heap.size) row (Ne.symm hkq0)).trans Qq0
      have B11 := below_setRow C5 (show w.heap.size ≤ k1 by omega) row
      have K11 : Hid (∀ k, V4.heap.size ≤ k → k < X4.heap.size → (V5.setRow k1 row).heap[k]? = X4.heap[k]?) := fun k h1 h2 => (setRow_other V5 k1 k row (by omega)).trans (N10.out k h2)
      have z11 := size_setRow V5 k1 row
      have n11 : X4.heap.size ≤ (V5.setRow k1 row).heap.size := by omega
      generalize V5.setRow k1 row = W11 at r1 rq0 B11 K11 n11 z11 ⊢
      clear o1 Qq0 C5 N10 z11 n10 n9 ou lt1
      have HE : Hid (sunkE f l need = ke) := by show sunkE f l need = ke; unfold sunkE; rw [hpe1, hpe2, hke]
      by_cases h0 : ke = 0
      · obtain ⟨S, hS, hKn⟩ := HZ.out h0
        obtain ⟨gf, lb, hform⟩ := hKn.form
        have hgv := hKn.gives gf lb hform W11 (fun k h1 h2 => K11.out k h1 h2) n11
        obtain rfl : row = #[.int .i64 f.rise, .int .i64 f.fall, .int .i64 f.up, .int .i64 f.down, .func (.func gf) #[] lb] := by
          have e := HROW.out.symm.trans hform
          simpa [siV] using e
        subst h0
        have hsp : l.length ≤ 200 ∧ ∀ p ∈ l, spotB p = true := by
          have h1 := (first2.1 (known_zero hke).2.1).1
          rw [← hpe1] at h1
          exact path_zero h1
        have HR : Hid (possiblyR f l need = rowsI (l.map (endHi f f.ls)) need) := by show possiblyR f l need = _; unfold possiblyR highsI; rw [if_pos HE.out]
        have hL := high_c f gf lb W11
        unfold siV at hL
        have HSP := Lib.hid hsp
        have HS := Lib.hid hS
        have HG := Lib.hid hgv
        clear hgv hKn hform HZ HN HROW K11 hS hpe1 hpe2 hke h5 h1c hsp
        have c0 := Joins.cell_of_block r1 0
        have c1 := Joins.cell_of_block r1 1
        have c2 := Joins.cell_of_block r1 2
        have c3 := Joins.cell_of_block r1 3
        have c4 := Joins.cell_of_block r1 4
        go_wp2_with fail
        refine hL.mono ?_
        rintro e W12 ⟨rfl, hW12⟩
        have y12 : W12.heap[W11.heap.size]? = some (.cells #[.int .i64 f.rise, .int .i64 f.fall, .int .i64 f.up, .int .i64 f.down, .func (.func gf) #[] lb] 114) := by rw [hW12]; exact heap_alloc_new _ _
        have hb12 : Below W11.heap.size W11 W12 := by rw [hW12]; exact below_alloc _ _
        have B12 := below_then B11 hb12
        have g12 := (HG.out.later hb12).more hb12.size
        clear hW12 hL c0 c1 c2 c3 c4
        have hH := heats_c (endHi f f.ls) (highId f f.ls) v l _ _ W12 (hv.later B12) (by have := HSP.out.1; omega) (enters_of Tryz.func123 (by kernel_rfl) rfl) fun p hp W hW => high1_c f S f.ls gf lb p W11.heap.size W HS.out (HSP.out.2 p hp) ((hW.block _ (size_of_block y12)).trans y12) ((g12.later hW).more hW.size)
        go_wp2_with fail
        refine hH.mono ?_
        rintro e W13 ⟨u13, rfl, hown, hb13⟩
        have B13 := below_then B12 hb13
        have z12 := B13.size
        clear hH y12 hb12 g12 hb13
        have hr := rows_c u13 (l.map (endHi f f.ls)) need W13 (Ints.of_own (by rw [List.length_map]; exact hown) (by rw [List.length_map]; have := HSP.out.1; omega)) (by rw [List.length_map]; have := HSP.out.1; omega)
        clear hown
        go_wp2_with fail
        refine hr.mono ?_
        rintro e W14 ⟨u14, rfl, hown, hb14⟩
        have B14 := below_then B13 hb14
        clear hr hb14
        go_wp2_with fail
        refine bodyPost_ret (v := .tuple #[u14, .int .i64 0]) ?_ rfl ⟨u14, by rw [HE.out], ?_, B14⟩
        · simp [results, Tryz.results42, go_sem]
        · rw [HR.out]
          exact own_weak hown z12
      · have d1 : (ke != 0) = true := by simpa using h0
        have HR : Hid (possiblyR f l need = []) := by show possiblyR f l need = _; unfold possiblyR; rw [HE.out, if_neg h0]
        clear h0 HZ HN HROW K11 hpe1 hpe2 hke h5 h1c
        go_wp2_with fail
        refine bodyPost_ret (v := .tuple #[.slice none 0 0, .int .i64 ke]) ?_ rfl ⟨_, by rw [HE.out], by rw [HR.out]; exact World.ownsRow_nil _ _ _ _, B11⟩
        simp [results, Tryz.results42, go_sem]
    · refine wpTr_step rfl rfl fun K hK => ?_
      go_simp
      refine hK _ _ (below_alloc _ _) fun V1 hu1 => ?_
      clear hK K
      have yn := (hu1.block _ (by simp)).trans (heap_alloc_new V0 (.cells #[.int .i64 need] 3))
      have S1 := below_then (below_alloc V0 (.cells #[.int .i64 need] 3)) hu1
      have C1 := below_then C0 S1
      have D1 := below_then D0 S1
      refine wpTr_step rfl rfl fun K hK => ?_
      go_simp
      refine (CheckPath_c v l V1 (hv.later C1)).mono ?_
      rintro e X1 ⟨rfl, hx1⟩
      rw [hpe1]
      refine hK _ _ hx1 fun V2 hu2 => ?_
      clear hK K
      have S2 := below_then hx1 hu2
      have C2 := below_then C1 S2
      have D2 := below_then D1 S2
      replace yn := (S2.block _ (size_of_block yn)).trans yn
      refine wpTr_step rfl rfl fun K hK => ?_
      go_simp
      refine (checkHeats_c _ [need] V2 (ints1 yn)).mono ?_
      rintro e X2 ⟨rfl, hx2⟩
      rw [show (if [need].all heatB then (0 : Int) else 1) = heatE need by simp [heatE], hpe2]
      refine hK _ _ hx2 fun V3 hu3 => ?_
      clear hK K
      have S3 := below_then hx2 hu3
      have C3 := below_then C2 S3
      have D3 := below_then D2 S3
      replace yn := (S3.block _ (size_of_block yn)).trans yn
      refine wpTr_step rfl rfl fun K hK => ?_
      go_simp
      refine hK _ _ (below_alloc _ _) fun V4 hu4 => ?_
      clear hK K
      have ye := (hu4.block _ (by simp)).trans (heap_alloc_new V3 (.cells #[.int .i64 pe1, .int .i64 pe2] 30))
      have S4 := below_then (below_alloc V3 (.cells #[.int .i64 pe1, .int .i64 pe2] 30)) hu4
      have C4 := below_then C3 S4
      have D4 := below_then D3 S4
      replace yn := (S4.block _ (size_of_block yn)).trans yn
      refine wpTr_step rfl rfl fun K hK => ?_
      go_simp
      refine (hK' _ [pe1, pe2] V4 C4 (ints2 ye)).mono ?_
      rintro e X4 ⟨sv, rfl, hz, hn, hx4⟩
      refine hK _ _ hx4 fun V5 hu5 => ?_
      clear hK K
      have S5 := below_then hx4 hu5
      have C5 := below_then C4 S5
      have D5 := below_then D4 S5
      replace yn := (S5.block _ (size_of_block yn)).trans yn
      replace ye := (S5.block _ (size_of_block ye)).trans ye
      obtain ⟨row, hrow, h5, h1c⟩ := sight_row hz hn
      have N10 : Hid (∀ k, k < X4.heap.size → V5.heap[k]? = X4.heap[k]?) := fun k h => hu5.block k h
      have Qq0 := (D5.block _ zq0).trans q0
      have n10 := hu5.size
      have n9 := hx4.size
      clear yn ye C0 C1 C2 C3 C4 D0 D1 D2 D3 D4 D5 S1 S2 S3 S4 S5 hu1 hu2 hu3 hu4 hu5 hK' hb0 q0
      have HZ := Lib.hid hz
      have HN := Lib.hid hn
      have HROW := Lib.hid hrow
      clear hz hn
      generalize hke : knownE f [pe1, pe2] = ke at HZ HN ⊢
      rw [hrow]
      refine wpPure_step (.tuple #[.agg row, .int .i64 ke]) rfl (fun u => rfl) ?_
      refine wpPure_step (.agg row) rfl (fun u => rfl) ?_
      refine wpPure_step (.int .i64 ke) rfl (fun u => rfl) ?_
      intro ks hk hall hH
      obtain ⟨k1, rfl⟩ : ∃ k1, ks = [some k1] := by
        match ks, hk with
        | [none], _ => exact absurd rfl (hall 0)
        | [some k1], _ => exact ⟨k1, rfl⟩
      obtain ⟨o1, ge1, lt1⟩ := hH.obj 0 k1 rfl
      have ou := hH.out 0 k1 rfl (V4.heap.size, X4.heap.size) (by simp)
      rw [show ([Obj.cells #[.int .i64 0, .int .i64 0, .int .i64 0, .int .i64 0, .nilFunc] 114])[0]? = some (.cells #[.int .i64 0, .int .i64 0, .int .i64 0, .int .i64 0, .nilFunc] 114) from rfl] at o1
      rw [QS.out] at ge1
      clear hH hall hk
      have hkq0 : k1 ≠ w.heap.size := by omega
      show wpList _ _ _ _ _ _
      simp only [deco, ptrV]
      refine wpList_store_rowTo rfl 114 _ _ rfl rfl k1 row rfl rfl 114 _ o1 (by rw [Tryz.zSightSize, h5]) (by rw [h5]; rfl) h1c ?_
      have r1 := setRow_heap V5 k1 _ row _ _ o1
      have rq0 := (setRow_other V5 k1 (w.heap.size) row (Ne.symm hkq0)).trans Qq0
      have B11 := below_setRow C5 (show w.heap.size ≤ k1 by omega) row
      have K11 : Hid (∀ k, V4.heap.size ≤ k → k < X4.heap.size → (V5.setRow k1 row).heap[k]? = X4.heap[k]?) := fun k h1 h2 => (setRow_other V5 k1 k row (by omega)).trans (N10.out k h2)
      have z11 := size_setRow V5 k1 row
      have n11 : X4.heap.size ≤ (V5.setRow k1 row).heap.size := by omega
      generalize V5.setRow k1 row = W11 at r1 rq0 B11 K11 n11 z11 ⊢
      clear o1 Qq0 C5 N10 z11 n10 n9 ou lt1
      have HE : Hid (sunkE f l need = ke) := by show sunkE f l need = ke; unfold sunkE; rw [hpe1, hpe2, hke]
      by_cases h0 : ke = 0
      · obtain ⟨S, hS, hKn⟩ := HZ.out h0
        obtain ⟨gf, lb, hform⟩ := hKn.form
        have hgv := hKn.gives gf lb hform W11 (fun k h1 h2 => K11.out k h1 h2) n11
        obtain rfl : row = #[.int .i64 f.rise, .int .i64 f.fall, .int .i64 f.up, .int .i64 f.down, .func (.func gf) #[] lb] := by
          have e := HROW.out.symm.trans hform
          simpa [siV] using e
        subst h0
        have hsp : l.length ≤ 200 ∧ ∀ p ∈ l, spotB p = true := by
          have h1 := (first2.1 (known_zero hke).2.1).1
          rw [← hpe1] at h1
          exact path_zero h1
        have HR : Hid (possiblyR f l need = rowsI (l.map (endHi f f.ls)) need) := by show possiblyR f l need = _; unfold possiblyR highsI; rw [if_pos HE.out]
        have hL := high_c f gf lb W11
        unfold siV at hL
        have HSP := Lib.hid hsp
        have HS := Lib.hid hS
        have HG := Lib.hid hgv
        clear hgv hKn hform HZ HN HROW K11 hS hpe1 hpe2 hke h5 h1c hsp
        have c0 := Joins.cell_of_block r1 0
        have c1 := Joins.cell_of_block r1 1
        have c2 := Joins.cell_of_block r1 2
        have c3 := Joins.cell_of_block r1 3
        have c4 := Joins.cell_of_block r1 4
        go_wp2_with fail
        refine hL.mono ?_
        rintro e W12 ⟨rfl, hW12⟩
        have y12 : W12.heap[W11.heap.size]? = some (.cells #[.int .i64 f.rise, .int .i64 f.fall, .int .i64 f.up, .int .i64 f.down, .func (.func gf) #[] lb] 114) := by rw [hW12]; exact heap_alloc_new _ _
        have hb12 : Below W11.heap.size W11 W12 := by rw [hW12]; exact below_alloc _ _
        have B12 := below_then B11 hb12
        have g12 := (HG.out.later hb12).more hb12.size
        clear hW12 hL c0 c1 c2 c3 c4
        have hH := heats_c (endHi f f.ls) (highId f f.ls) v l _ _ W12 (hv.later B12) (by have := HSP.out.1; omega) (enters_of Tryz.func123 (by kernel_rfl) rfl) fun p hp W hW => high1_c f S f.ls gf lb p W11.heap.size W HS.out (HSP.out.2 p hp) ((hW.block _ (size_of_block y12)).trans y12) ((g12.later hW).more hW.size)
        go_wp2_with fail
        refine hH.mono ?_
        rintro e W13 ⟨u13, rfl, hown, hb13⟩
        have B13 := below_then B12 hb13
        have z12 := B13.size
        clear hH y12 hb12 g12 hb13
        have hr := rows_c u13 (l.map (endHi f f.ls)) need W13 (Ints.of_own (by rw [List.length_map]; exact hown) (by rw [List.length_map]; have := HSP.out.1; omega)) (by rw [List.length_map]; have := HSP.out.1; omega)
        clear hown
        go_wp2_with fail
        refine hr.mono ?_
        rintro e W14 ⟨u14, rfl, hown, hb14⟩
        have B14 := below_then B13 hb14
        clear hr hb14
        go_wp2_with fail
        refine bodyPost_ret (v := .tuple #[u14, .int .i64 0]) ?_ rfl ⟨u14, by rw [HE.out], ?_, B14⟩
        · simp [results, Tryz.results42, go_sem]
        · rw [HR.out]
          exact own_weak hown z12
      · have d1 : (ke != 0) = true := by simpa using h0
        have HR : Hid (possiblyR f l need = []) := by show possiblyR f l need = _; unfold possiblyR; rw [HE.out, if_neg h0]
        clear h0 HZ HN HROW K11 hpe1 hpe2 hke h5 h1c
        go_wp2_with fail
        refine bodyPost_ret (v := .tuple #[.slice none 0 0, .int .i64 ke]) ?_ rfl ⟨_, by rw [HE.out], by rw [HR.out]; exact World.ownsRow_nil _ _ _ _, B11⟩
        simp [results, Tryz.results42, go_sem]
end Go.Proofs.YtjpoacffnpgjdaaGreat
/- Suspects: by the program. -/
namespace Go.Proofs.YtjpoacffnpgjdaaGreat
open Go Go.RowKit Go.Shelf
attribute [local go_sem] Oper.semAt_some Rel RelAt RelUpon

theorem sok_but {f : Fi} {S ls : List Lk} (h : SOk f S ls) (id : Int) : SOk f (but1 S id) (but1 ls id) := ⟨h.slope, fun x hx => h.look x (List.mem_filter.1 hx).1, srt_but h.srt id⟩
theorem onL_ids {B : Int → Bool} {S ls : List Lk} (h : Srt S ls) : onL B S = idsI (fun x => B x.id) ls := (ids_srt h).symm
set_option maxRecDepth 100000 in
set_option maxHeartbeats 4000000 in
theorem Suspects_c (f : Fi) (vl : Value) (w : World) (hl : Lks w w.heap.size vl f.ls) :
    Calls Tryz.prog 14 #[fiV f vl] w fun e w' => ∃ u, e = .returned (.tuple #[u, .int .i64 (fireI f)]) ∧ w'.ownsRow w.heap.size 3 1 u (suspR f).length ((suspR f).map (Value.int .i64)) ∧ Below w.heap.size w w' := by
  obtain ⟨A, cap, rfl⟩ := hl.form
  have q0 := heap_alloc_new w (.cells #[.int .i64 f.rise, .int .i64 f.fall, .int .i64 f.up, .int .i64 f.down, .slice A f.ls.length cap] 24)
  have qb := below_alloc w (.cells #[.int .i64 f.rise, .int .i64 f.fall, .int .i64 f.up, .int .i64 f.down, .slice A f.ls.length cap] 24)
  obtain ⟨R, hR⟩ : ∃ r, r = suspR f := ⟨_, rfl⟩
  rw [← hR]
  have HR := Lib.hid hR
  clear hR
  have hC := fun W (hb : Below w.heap.size w W) => Check_c f (fiV f (.slice A f.ls.length cap)) W ⟨_, rfl, hl.later hb⟩
  have hSO := fun W (hb : Below w.heap.size w W) => sightOf_c f (.slice A f.ls.length cap) W (hl.later hb)
  unfold fiV at hC hSO ⊢
  go_enter Tryz.func14, Tryz.ntmps14
  go_wp2_with fail
  generalize w.alloc _ = W3 at q0 qb ⊢
  refine (hC W3 qb).mono ?_
  rintro e W4 ⟨rfl, hb4⟩
  replace q0 := (hb4.block _ (size_of_block q0)).trans q0
  replace qb := below_then qb hb4
  clear hb4 hC
  by_cases hf : fireI f = 0
  · have HR2 : Hid (R = suspL f f.ls) := by show R = _; rw [HR.out]; unfold suspR; rw [if_pos hf]
    have ok := fire_ok hf
    have HF := Lib.hid hf
    rw [hf]
    clear hf
    have s0 := Joins.cell_of_block q0 0
    have s1 := Joins.cell_of_block q0 1
    have s2 := Joins.cell_of_block q0 2
    have s3 := Joins.cell_of_block q0 3
    have s4 := Joins.cell_of_block q0 4
    go_wp2_with fail
    refine (hSO W4 qb ok.ids (by have := ok.len; omega)).mono ?_
    rintro e w5 ⟨S, gf, lb, rfl, hS, hGv, hb5⟩
    clear s0 s1 s2 s3 s4 hSO
    have sok : SOk f S f.ls := ⟨ok.slope, ok.look, hS⟩
    have hk := agrees_c f S f.ls gf lb
    have hal := alone_c f S gf lb
    have n5 := hb5.size
    unfold siV at hk ⊢
    obtain ⟨W6, hW6⟩ : ∃ W6, W6 = w5.alloc (.cells #[.int .i64 f.rise, .int .i64 f.fall, .int .i64 f.up, .int .i64 f.down, .func (.func gf) #[] lb] 114) := ⟨_, rfl⟩
    have hb6 : Below w5.heap.size w5 W6 := by rw [hW6]; exact below_alloc _ _
    have e6 : W6.heap[w5.heap.size]? = some (.cells #[.int .i64 f.rise, .int .i64 f.fall, .int .i64 f.up, .int .i64 f.down, .func (.func gf) #[] lb] 114) := by rw [hW6]; exact heap_alloc_new _ _
    have HW6 := Lib.hid hW6
    clear hW6
    have B6 := below_then qb (below_then hb5 hb6)
    have G6 := hGv W6 (fun k _ h => hb6.block k h) hb6.size
    have hA := hk W6 sok G6
    have c0 := Joins.cell_of_block e6 0
    have c1 := Joins.cell_of_block e6 1
    have c2 := Joins.cell_of_block e6 2
    have c3 := Joins.cell_of_block e6 3
    have c4 := Joins.cell_of_block e6 4
    have z6 := size_of_block e6
    have HOK := Lib.hid ok
    have HS := Lib.hid sok
    clear hk ok hS hGv sok
    go_wp2_with (refine wpList_store_rowTo rfl 114 _ _ rfl rfl w5.heap.size #[.int .i64 f.rise, .int .i64 f.fall, .int .i64 f.up, .int .i64 f.down, .func (.func gf) #[] lb] rfl rfl 114 _ (heap_alloc_new w5 _) (by kernel_rfl) rfl (by kernel_rfl) ?_; rw [World.setRow_alloc_new, ← HW6.out])
    refine hA.mono ?_
    rintro e w7 ⟨rfl, hb7⟩
    have e7 := (hb7.block _ z6).trans e6
    have B7 := below_then B6 hb7
    have G7 := (G6.later hb7).more hb7.size
    clear c0 c1 c2 c3 c4 hA hb7 hb6 e6
    by_cases hag : agreeB f f.ls = true
    · have HL : Hid (R = []) := by show R = _; rw [HR2.out]; unfold suspL; rw [if_pos hag]
      rw [hag]
      clear hag hal G7 G6
      go_wp2_with fail
      refine bodyPost_ret (v := .tuple #[.slice none 0 0, .int .i64 0]) ?_ rfl ⟨_, by rw [HF.out], by rw [HL.out]; exact World.ownsRow_nil _ _ _ _, B7⟩
      simp [results, Tryz.results14, go_sem]
    · have hag' : agreeB f f.ls = false := by simpa using hag
      have HL : Hid (R = onL (fun id => agreeB f (but1 f.ls id)) S) := by show R = _; rw [HR2.out, onL_ids HS.out.srt]; unfold suspL; rw [if_neg hag]
      rw [hag']
      clear hag hag'
      have hal2 := hal (.func (.func 63) #[] #[]) (fun id => agreeB f (but1 f.ls id)) w7 G7 ⟨_, _, rfl, enters_of Tryz.func63 (by kernel_rfl) rfl, fun x _ W g lg _ hg => by
        have := agrees_c f (but1 S x.id) (but1 f.ls x.id) g lg W (sok_but HS.out x.id) hg
        simpa using this⟩ (by rw [HS.out.srt.perm.length_eq]; have := HOK.out.len; omega)
      unfold siV at hal2
      clear hal G7 G6
      have d0 := Joins.cell_of_block e7 0
      have d1' := Joins.cell_of_block e7 1
      have d2' := Joins.cell_of_block e7 2
      have d3' := Joins.cell_of_block e7 3
      have d4' := Joins.cell_of_block e7 4
      have n7 := B7.size
      go_wp2_with fail
      refine hal2.mono ?_
      rintro e w8 ⟨u, rfl, hown, hb8⟩
      have B8 := below_then B7 hb8
      clear hal2 hb8 d0 d1' d2' d3' d4'
      go_wp2_with fail
      refine bodyPost_ret (v := .tuple #[u, .int .i64 0]) ?_ rfl ⟨u, by rw [HF.out], ?_, B8⟩
      · simp [results, Tryz.results14, go_sem]
      · rw [HL.out]; exact own_weak hown n7
  · have d1 : (fireI f != 0) = true := by simpa using hf
    have HR2 : Hid (R = []) := by show R = _; rw [HR.out]; unfold suspR; rw [if_neg hf]
    clear hf hSO
    go_wp2_with fail
    refine bodyPost_ret (v := .tuple #[.slice none 0 0, .int .i64 (fireI f)]) ?_ rfl ⟨_, rfl, by rw [HR2.out]; exact World.ownsRow_nil _ _ _ _, qb⟩
    simp [results, Tryz.results14, go_sem]
end Go.Proofs.YtjpoacffnpgjdaaGreat
/- What Rests asks of a sight without a look: by the program. -/
namespace Go.Proofs.YtjpoacffnpgjdaaGreat
open Go Go.RowKit Go.Shelf
attribute [local go_sem] Oper.semAt_some Rel RelAt RelUpon

theorem Tryz.fieldBnd0 (a b c d : Value) (w : World) : (Instr.field 56 (.agg #[a, b, c, d]) 0).run Tryz.prog w = .ok (.agg #[a, b]) w := by kernel_rfl
attribute [local go_sem] Tryz.fieldBnd0
set_option maxRecDepth 100000 in
set_option maxHeartbeats 4000000 in
theorem rests1_c (f : Fi) (S ls : List Lk) (gf : Nat) (lb : Array Value) (p : Spt) (lo hi : Int) (bp bs : Nat) (w : World) (h : SOk f S ls) (hp : spotB p = true) (hG : Gives Tryz.prog w.heap.size 0 fireU (.func (.func gf) #[] lb) encLk S w)
    (h0 : w.heap[bp]? = some (.cells #[.int .i64 p.foot, .int .i64 p.hour] 26)) (h1 : w.heap[bs]? = some (.cells #[.int .i64 lo, .int .i64 hi] 54)) :
    Calls Tryz.prog 81 #[siV f (.func (.func gf) #[] lb), .pointer (some ⟨bp, 0, none⟩), .pointer (some ⟨bs, 0, none⟩)] w fun e w' => e = .returned (.bool (!(decide (endLo f ls p = lo) && decide (endHi f ls p = hi)))) ∧ Below w.heap.size w w' := by
  have q0 := heap_alloc_new w (.cells #[.int .i64 f.rise, .int .i64 f.fall, .int .i64 f.up, .int .i64 f.down, .func (.func gf) #[] lb] 114)
  have qb := below_alloc w (.cells #[.int .i64 f.rise, .int .i64 f.fall, .int .i64 f.up, .int .i64 f.down, .func (.func gf) #[] lb] 114)
  replace h0 := (qb.block _ (size_of_block h0)).trans h0
  replace h1 := (qb.block _ (size_of_block h1)).trans h1
  have hB := fun W (hb : Below w.heap.size w W) => bounds_c f S ls gf lb p W h hp ((hG.later hb).more hb.size)
  obtain ⟨R, hR⟩ : ∃ r, r = !(decide (endLo f ls p = lo) && decide (endHi f ls p = hi)) := ⟨_, rfl⟩
  rw [← hR]
  have HR := Lib.hid hR
  clear hR h hp hG
  unfold siV sV at hB
  unfold siV
  go_enter Tryz.func81, Tryz.ntmps81
  go_wp2_with fail
  generalize w.alloc _ = W3 at q0 qb h0 h1 ⊢
  refine wp_region_looseM [] [0, 1, 4] (.one 2 (.one 3 .done)) [] [5] [6] [] [] (by kernel_rfl) (by kernel_rfl) (by intro c a d v w h; cases d <;> exact h) (by intro c a d v w h; cases d <;> exact h) rfl (fun r i h => by simp at h) ?_
  simp only [pick, List.filterMap_cons, List.filterMap_nil, List.getElem?_toArray, List.getElem?_cons_succ, List.getElem?_cons_zero]
  intro u hu
  replace q0 := (hu.block _ (size_of_block q0)).trans q0
  replace h0 := (hu.block _ (size_of_block h0)).trans h0
  replace h1 := (hu.block _ (size_of_block h1)).trans h1
  replace qb := below_then qb hu
  have z0 := size_of_block q0
  have z1 := size_of_block h0
  have z2 := size_of_block h1
  have s0 := Joins.cell_of_block q0 0
  have s1 := Joins.cell_of_block q0 1
  have s2 := Joins.cell_of_block q0 2
  have s3 := Joins.cell_of_block q0 3
  have s4 := Joins.cell_of_block q0 4
  have t0 := Joins.cell_of_block h0 0
  have t1 := Joins.cell_of_block h0 1
  have u0 := Joins.cell_of_block h1 0
  have u1 := Joins.cell_of_block h1 1
  have hcg : ∀ (g : Gr u) b o, b < u.heap.size → g.val.cell? ⟨b, o, none⟩ = u.cell? ⟨b, o, none⟩ := fun g b o h => (bcell g.b).1 b o h
  iterate 3 (refine wpRel_step (fun K hK => ?_); go_simp; refine hK _ ?_; clear hK K)
  refine wpRel_nil fun V0 hb0 => ?_
  clear hcg s0 s1 s2 s3 s4 t0 t1 u0 u1
  have C0 := below_then qb hb0
  refine wpTr_step rfl rfl fun K hK => ?_
  go_simp
  refine (hB V0 C0).mono ?_
  rintro e X0 ⟨rfl, hx0⟩
  refine hK _ _ hx0 fun V1 hu1 => ?_
  clear hK K
  have C1 := below_then C0 (below_then hx0 hu1)
  refine wpTr_step rfl rfl fun K hK => ?_
  go_simp
  refine hK _ _ (Below.refl _ _) fun V2 hu2 => ?_
  clear hK K
  have C2 := below_then C1 hu2
  show wpPure _ _ _ _
  refine wpPure_step (.bool R) rfl (fun u => by
    rw [HR.out]
    by_cases e1 : endLo f ls p = lo <;> by_cases e2 : endHi f ls p = hi <;> simp [go_sem, bndI, e1, e2]) ?_
  intro ks hk _ _
  obtain rfl : ks = [] := List.length_eq_zero_iff.1 hk
  clear hk
  show wpList _ _ _ _ _ _
  simp only [deco]
  go_wp2_with fail
  go_ret
  exact ⟨rfl, C2⟩
end Go.Proofs.YtjpoacffnpgjdaaGreat
/- Rests: by the program (written by tools/genrests.py). -/
namespace Go.Proofs.YtjpoacffnpgjdaaGreat
open Go Go.RowKit Go.Shelf
attribute [local go_sem] Oper.semAt_some Rel RelAt RelUpon

set_option maxRecDepth 100000 in
set_option maxHeartbeats 4000000 in
theorem Rests_c (f : Fi) (vl : Value) (p : Spt) (w : World) (hl : Lks w w.heap.size vl f.ls) :
    Calls Tryz.prog 26 #[fiV f vl, sV p] w fun e w' => ∃ u, e = .returned (.tuple #[u, .int .i64 (endsE f p)]) ∧ w'.ownsRow w.heap.size 3 1 u (restsR f p).length ((restsR f p).map (Value.int .i64)) ∧ Below w.heap.size w w' := by
  obtain ⟨A, cap, rfl⟩ := hl.form
  obtain ⟨q0, q1, qs, qb⟩ := two_new' w (.cells #[.int .i64 f.rise, .int .i64 f.fall, .int .i64 f.up, .int .i64 f.down, .slice A f.ls.length cap] 24) (.cells #[.int .i64 p.foot, .int .i64 p.hour] 26)
  have hK' := fun ve errs W (hb : Below w.heap.size w W) => known_c f (.slice A f.ls.length cap) ve errs W (hl.later hb)
  have hfb := Tryz.fieldBnd0
  unfold fiV at hK' ⊢
  unfold sV
  go_enter Tryz.func26, Tryz.ntmps26
  go_wp2_with fail
  have QS := Lib.hid qs
  clear qs
  generalize (w.alloc _).alloc _ = W3 at q0 q1 QS qb ⊢
  refine wp_region_looseN [0, 1] [2, 3, 4, 5] [9] [6, 7, 8] [10, 11] [some 6] [.cells #[.int .i64 0, .int .i64 0, .int .i64 0, .int .i64 0, .nilFunc] 114] (by kernel_rfl) (by kernel_rfl) (by intro c a d v w h; cases d <;> exact h) (by intro c a d v w h; cases d <;> exact h) rfl ?_ ?_
  · intro r i hri
    match r, hri with
    | 0, hri => cases hri; exact ⟨_, _, rfl, rfl, rfl, rfl, fun a u => by simp [execOp, go_sem, ptrV]⟩
  · intro u hu
    replace q0 := (hu.block _ (size_of_block q0)).trans q0
    replace q1 := (hu.block _ (size_of_block q1)).trans q1
    replace qb := below_then qb hu
    have zq0 := size_of_block q0
    have cq00 := Joins.cell_of_block q0 0
    have cq01 := Joins.cell_of_block q0 1
    have cq02 := Joins.cell_of_block q0 2
    have cq03 := Joins.cell_of_block q0 3
    have cq04 := Joins.cell_of_block q0 4
    have zq1 := size_of_block q1
    have cq10 := Joins.cell_of_block q1 0
    have cq11 := Joins.cell_of_block q1 1
    have hcg : ∀ (g : Gr u) b o, b < u.heap.size → g.val.cell? ⟨b, o, none⟩ = u.cell? ⟨b, o, none⟩ := fun g b o h => (bcell g.b).1 b o h
    simp only [pick, List.filterMap_cons, List.filterMap_nil, List.getElem?_toArray, List.getElem?_cons_succ, List.getElem?_cons_zero]
    iterate 2 (refine wpRel_step (fun K hK => ?_); go_simp; refine hK _ ?_; clear hK K)
    refine wpRel_nil fun V0 hb0 => ?_
    clear hcg cq00 cq01 cq02 cq03 cq04 cq10 cq11
    have C0 := below_then qb hb0
    have D0 := hb0
    refine wpChain_step rfl rfl fun K hK => ?_
    go_simp
    refine hK _ _ (below_alloc _ _) fun V1 hu1 => ?_
    clear hK K
    have y1 := (hu1.block _ (by simp)).trans (heap_alloc_new V0 (.cells #[.int .i64 p.foot, .int .i64 p.hour] 26))
    have S1 := below_then (below_alloc V0 (.cells #[.int .i64 p.foot, .int .i64 p.hour] 26)) hu1
    have C1 := below_then C0 S1
    have D1 := below_then D0 S1
    refine wpChain_step rfl rfl fun K hK => ?_
    go_simp
    refine (checkSpots_c _ [p] V1 (spts1 y1)).mono ?_
    rintro e X1 ⟨rfl, hx1⟩
    rw [show (if [p].all spotB then (0 : Int) else 1) = spotE p by simp [spotE]]
    generalize hpe : spotE p = pe
    refine hK _ _ hx1 fun V2 hu2 => ?_
    clear hK K
    have S2 := below_then hx1 hu2
    have C2 := below_then C1 S2
    have D2 := below_then D1 S2
    refine wpChain_step rfl rfl fun K hK => ?_
    go_simp
    refine hK _ _ (below_alloc _ _) fun V3 hu3 => ?_
    clear hK K
    have y3 := (hu3.block _ (by simp)).trans (heap_alloc_new V2 (.cells #[.int .i64 pe] 30))
    have S3 := below_then (below_alloc V2 (.cells #[.int .i64 pe] 30)) hu3
    have C3 := below_then C2 S3
    have D3 := below_then D2 S3
    refine wpChain_step rfl rfl fun K hK => ?_
    go_simp
    refine (hK' _ [pe] V3 C3 (ints1 y3)).mono ?_
    rintro e X3 ⟨sv, rfl, hz, hn, hx3⟩
    refine hK _ _ hx3 fun V4 hu4 => ?_
    clear hK K
    have S4 := below_then hx3 hu4
    have C4 := below_then C3 S4
    have D4 := below_then D3 S4
    obtain ⟨row, hrow, h5, h1c⟩ := sight_row hz hn
    have N10 : Hid (∀ k, k < X3.heap.size → V4.heap[k]? = X3.heap[k]?) := fun k h => hu4.block k h
    have Qq0 := (D4.block _ zq0).trans q0
    have Qq1 := (D4.block _ zq1).trans q1
    have n10 := hu4.size
    have n9 := hx3.size
    clear y1 y3 C0 C1 C2 C3 D0 D1 D2 D3 D4 S1 S2 S3 S4 hu1 hu2 hu3 hu4 hK' hb0 q0 q1
    have HZ := Lib.hid hz
    have HN := Lib.hid hn
    have HROW := Lib.hid hrow
    clear hz hn
    generalize hke : knownE f [pe] = ke at HZ HN ⊢
    rw [hrow]
    refine wpPure_step (.tuple #[.agg row, .int .i64 ke]) rfl (fun u => rfl) ?_
    refine wpPure_step (.agg row) rfl (fun u => rfl) ?_
    refine wpPure_step (.int .i64 ke) rfl (fun u => rfl) ?_
    intro ks hk hall hH
    obtain ⟨k1, rfl⟩ : ∃ k1, ks = [some k1] := by
      match ks, hk with
      | [none], _ => exact absurd rfl (hall 0)
      | [some k1], _ => exact ⟨k1, rfl⟩
    obtain ⟨o1, ge1, lt1⟩ := hH.obj 0 k1 rfl
    have ou := hH.out 0 k1 rfl (V3.heap.size, X3.heap.size) (by simp)
    rw [show ([Obj.cells #[.int .i64 0, .int .i64 0, .int .i64 0, .int .i64 0, .nilFunc] 114])[0]? = some (.cells #[.int .i64 0, .int .i64 0, .int .i64 0, .int .i64 0, .nilFunc] 114) from rfl] at o1
    rw [QS.out] at ge1
    clear hH hall hk
    have hkq0 : k1 ≠ w.heap.size := by omega
    have hkq1 : k1 ≠ w.heap.size + 1 := by omega
    show wpList _ _ _ _ _ _
    simp only [deco, ptrV]
    refine wpList_store_rowTo rfl 114 _ _ rfl rfl k1 row rfl rfl 114 _ o1 (by rw [Tryz.zSightSize, h5]) (by rw [h5]; rfl) h1c ?_
    have r1 := setRow_heap V4 k1 _ row _ _ o1
    have rq0 := (setRow_other V4 k1 (w.heap.size) row (Ne.symm hkq0)).trans Qq0
    have rq1 := (setRow_other V4 k1 (w.heap.size + 1) row (Ne.symm hkq1)).trans Qq1
    have B11 := below_setRow C4 (show w.heap.size ≤ k1 by omega) row
    have K11 : Hid (∀ k, V3.heap.size ≤ k → k < X3.heap.size → (V4.setRow k1 row).heap[k]? = X3.heap[k]?) := fun k h1 h2 => (setRow_other V4 k1 k row (by omega)).trans (N10.out k h2)
    have z11 := size_setRow V4 k1 row
    have n11 : X3.heap.size ≤ (V4.setRow k1 row).heap.size := by omega
    generalize V4.setRow k1 row = W11 at r1 rq0 rq1 B11 K11 n11 z11 ⊢
    clear o1 Qq0 Qq1 C4 N10 z11 n10 n9 ou lt1
    have HE : Hid (endsE f p = ke) := by show endsE f p = ke; unfold endsE; rw [hpe, hke]
    by_cases h0 : ke = 0
    · obtain ⟨S, hS, hKn⟩ := HZ.out h0
      obtain ⟨gf, lb, hform⟩ := hKn.form
      have hgv := hKn.gives gf lb hform W11 (fun k h1 h2 => K11.out k h1 h2) n11
      obtain rfl : row = #[.int .i64 f.rise, .int .i64 f.fall, .int .i64 f.up, .int .i64 f.down, .func (.func gf) #[] lb] := by
        have e := HROW.out.symm.trans hform
        simpa [siV] using e
      subst h0
      have hp : spotB p = true := by
        have h1 := (known_zero hke).2.1
        rw [first1, ← hpe] at h1
        exact spotE_iff.1 h1
      have HR : Hid (restsR f p = onL (restB f f.ls p) S) := by show restsR f p = _; unfold restsR; rw [if_pos HE.out, onL_ids hS.srt]; rfl
      have hB := bounds_c f S f.ls gf lb p W11 hS hp hgv
      have hal := alone_c f S gf lb
      unfold siV sV at hB
      have HP := Lib.hid hp
      have HS := Lib.hid hS
      have HG := Lib.hid hgv
      have hlen : S.length ≤ 5000 := by rw [hS.srt.perm.length_eq]; have := (fire_ok (known_zero hke).1).len; omega
      clear hgv hKn hform HZ HN HROW K11 hS hpe hke h5 h1c hp
      have c0 := Joins.cell_of_block r1 0
      have c1 := Joins.cell_of_block r1 1
      have c2 := Joins.cell_of_block r1 2
      have c3 := Joins.cell_of_block r1 3
      have c4 := Joins.cell_of_block r1 4
      have p0 := Joins.cell_of_block rq1 0
      have p1 := Joins.cell_of_block rq1 1
      go_wp2_with fail
      refine hB.mono ?_
      rintro e W12 ⟨rfl, hb12⟩
      have R1 := (hb12.block _ (size_of_block r1)).trans r1
      have RP := (hb12.block _ (size_of_block rq1)).trans rq1
      have B12 := below_then B11 hb12
      have G12 := (HG.out.later hb12).more hb12.size
      clear hB r1 rq1 c0 c1 c2 c3 c4 p0 p1 hb12 B11
      obtain ⟨W13, hW13⟩ : ∃ W13, W13 = W12.alloc (.cells #[.int .i64 (endLo f f.ls p), .int .i64 (endHi f f.ls p)] 54) := ⟨_, rfl⟩
      have hb13 : Below W12.heap.size W12 W13 := by rw [hW13]; exact below_alloc _ _
      have e13 : W13.heap[W12.heap.size]? = some (.cells #[.int .i64 (endLo f f.ls p), .int .i64 (endHi f f.ls p)] 54) := by rw [hW13]; exact heap_alloc_new _ _
      have HW13 := Lib.hid hW13
      clear hW13
      have S1 := (hb13.block _ (size_of_block R1)).trans R1
      have SP := (hb13.block _ (size_of_block RP)).trans RP
      have B13 := below_then B12 hb13
      have G13 := (G12.later hb13).more hb13.size
      have hal2 := hal (.func (.func 81) #[] #[.pointer (some ⟨w.heap.size + 1, 0, none⟩), .pointer (some ⟨W12.heap.size, 0, none⟩)]) (restB f f.ls p) W13 G13 ⟨_, _, rfl, enters_of Tryz.func81 (by kernel_rfl) rfl, fun x _ W g lg hbW hg => by
        have := rests1_c f (but1 S x.id) (but1 f.ls x.id) g lg p (endLo f f.ls p) (endHi f f.ls p) (w.heap.size + 1) W12.heap.size W (sok_but HS.out x.id) HP.out hg ((hbW.block _ (size_of_block SP)).trans SP) ((hbW.block _ (size_of_block e13)).trans e13)
        simpa [restB] using this⟩ hlen
      unfold siV at hal2
      have zz := size_of_block R1
      have n13 := B13.size
      clear hal G13 G12 hlen e13
      unfold bndV bndI
      have d0 := Joins.cell_of_block S1 0
      have d1 := Joins.cell_of_block S1 1
      have d2 := Joins.cell_of_block S1 2
      have d3 := Joins.cell_of_block S1 3
      have d4 := Joins.cell_of_block S1 4
      rw [HW13.out] at d0 d1 d2 d3 d4
      go_wp2_with fail
      rw [← HW13.out]
      refine hal2.mono ?_
      rintro e W14 ⟨u, rfl, hown, hb14⟩
      have B14 := below_then B13 hb14
      clear hal2 hb14 d0 d1 d2 d3 d4
      go_wp2_with fail
      refine bodyPost_ret (v := .tuple #[u, .int .i64 0]) ?_ rfl ⟨u, by rw [HE.out], ?_, B14⟩
      · simp [results, Tryz.results26, go_sem]
      · rw [HR.out]; exact own_weak hown n13
    · have d1 : (ke != 0) = true := by simpa using h0
      have HR : Hid (restsR f p = []) := by show restsR f p = _; unfold restsR; rw [HE.out, if_neg h0]
      clear h0 HZ HN HROW K11 hpe hke h5 h1c
      go_wp2_with fail
      refine bodyPost_ret (v := .tuple #[.slice none 0 0, .int .i64 ke]) ?_ rfl ⟨_, by rw [HE.out], by rw [HR.out]; exact World.ownsRow_nil _ _ _ _, B11⟩
      simp [results, Tryz.results26, go_sem]
end Go.Proofs.YtjpoacffnpgjdaaGreat
/- The least heat that a look must show: by the program (written by tools/genneeded.py). -/
namespace Go.Proofs.YtjpoacffnpgjdaaGreat
open Go Go.RowKit Go.Shelf
attribute [local go_sem] Oper.semAt_some Rel RelAt RelUpon

set_option maxRecDepth 100000 in
set_option maxHeartbeats 8000000 in
theorem needed_c (f : Fi) (S ls : List Lk) (gf : Nat) (lb : Array Value) (look at_ : Spt) (need : Int) (w : World) (h : SOk f S ls) (hp : spotB look = true) (hq : spotB at_ = true) (hn : 0 ≤ need ∧ need ≤ 1500)
    (hG : Gives Tryz.prog w.heap.size 0 fireU (.func (.func gf) #[] lb) encLk S w) :
    Calls Tryz.prog 103 #[siV f (.func (.func gf) #[] lb), sV look, sV at_, .int .i64 need] w fun e w' => e = .returned (.tuple #[.int .i64 (if needI f ls look at_ need < 0 then 0 else needI f ls look at_ need), .bool (decide (0 ≤ needI f ls look at_ need))]) ∧ Below w.heap.size w w' := by
  obtain ⟨q0, q1, q2, qs, qb⟩ := three_new w (.cells #[.int .i64 f.rise, .int .i64 f.fall, .int .i64 f.up, .int .i64 f.down, .func (.func gf) #[] lb] 114) (.cells #[.int .i64 look.foot, .int .i64 look.hour] 26) (.cells #[.int .i64 at_.foot, .int .i64 at_.hour] 26)
  have HQ := Lib.hid (fun (W : World) (p : Spt) (hp : spotB p = true) (Bs : Nat) b1 b2 => low1_c f S ls gf lb p Bs W h hp b1 b2)
  have HQ2 := Lib.hid (fun (W : World) (p : Spt) (hp : spotB p = true) (Bs : Nat) b1 b2 => high1_c f S ls gf lb p Bs W h hp b1 b2)
  have hL := fun W => low_c f gf lb W
  have hH := fun W => high_c f gf lb W
  have hF := fun W => far_c f at_ look W h.slope hq hp
  have fb := far_bounds h.slope hq hp
  have hlook := Lib.hid hp
  have hat := Lib.hid hq
  have HG := Lib.hid hG
  obtain ⟨N, hN⟩ : ∃ N, N = needI f ls look at_ need := ⟨_, rfl⟩
  have HN : Hid (N = if need ≤ endLo f ls at_ then endLo f ls look else if endHi f ls look < need + farI f at_ look then -1 else need + farI f at_ look) := by
    show N = _
    rw [hN]
    unfold needI
    by_cases h1 : need ≤ endLo f ls at_
    · rw [if_pos h1, if_pos h1]
    · rw [if_neg h1, if_neg h1, need_max h.slope (by omega)]
  have HL0 := Lib.hid (lo_ge f ls look).1
  rw [← hN]
  obtain ⟨res, hres⟩ : ∃ r, r = (if N < 0 then 0 else N) := ⟨_, rfl⟩
  obtain ⟨ok, hok⟩ : ∃ b, b = decide (0 ≤ N) := ⟨_, rfl⟩
  rw [← hres, ← hok]
  have HR := Lib.hid hres
  have HO := Lib.hid hok
  unfold siV at hL hH
  unfold sV slV at hF
  unfold sV at HQ HQ2
  unfold siV sV
  clear h hp hq hG hN hres hok
  generalize farI f at_ look = far at hF fb HN
  go_enter Tryz.func103, Tryz.ntmps103
  go_wp2_with fail
  have QS := Lib.hid qs
  clear qs
  generalize ((w.alloc _).alloc _).alloc _ = W3 at q0 q1 q2 QS qb ⊢
  refine wp_region_looseM [5] [0, 2] (.one 1 (.one 3 .done)) [] [4, 6] [] [] [] (by kernel_rfl) (by kernel_rfl) (by intro c a d v w h; cases d <;> exact h) (by intro c a d v w h; cases d <;> exact h) rfl (fun r i h => by simp at h) ?_
  simp only [pick, List.filterMap_cons, List.filterMap_nil, List.getElem?_toArray, List.getElem?_cons_succ, List.getElem?_cons_zero]
  refine wpPure_step (.int .i64 need) rfl (fun u => rfl) ?_
  intro u hu
  replace q0 := (hu.block _ (size_of_block q0)).trans q0
  replace q1 := (hu.block _ (size_of_block q1)).trans q1
  replace q2 := (hu.block _ (size_of_block q2)).trans q2
  replace qb := below_then qb hu
  have zq0 := size_of_block q0
  have zq1 := size_of_block q1
  have zq2 := size_of_block q2
  have s0 := Joins.cell_of_block q0 0
  have s1 := Joins.cell_of_block q0 1
  have s2 := Joins.cell_of_block q0 2
  have s3 := Joins.cell_of_block q0 3
  have s4 := Joins.cell_of_block q0 4
  have tq10 := Joins.cell_of_block q1 0
  have tq11 := Joins.cell_of_block q1 1
  have tq20 := Joins.cell_of_block q2 0
  have tq21 := Joins.cell_of_block q2 1
  have hcg : ∀ (g : Gr u) b o, b < u.heap.size → g.val.cell? ⟨b, o, none⟩ = u.cell? ⟨b, o, none⟩ := fun g b o h => (bcell g.b).1 b o h
  iterate 2 (refine wpRel_step (fun K hK => ?_); go_simp; refine hK _ ?_; clear hK K)
  refine wpRel_nil fun V0 hb0 => ?_
  clear hcg s0 s1 s2 s3 s4 tq10 tq11 tq20 tq21
  have C0 := below_then qb hb0
  refine wpTr_step rfl rfl fun K hK => ?_
  go_simp
  refine (hL V0).mono ?_
  rintro e X0 ⟨rfl, hX0⟩
  have y0 : X0.heap[V0.heap.size]? = some (.cells #[.int .i64 f.rise, .int .i64 f.fall, .int .i64 f.up, .int .i64 f.down, .func (.func gf) #[] lb] 114) := by rw [hX0]; exact heap_alloc_new _ _
  have hx0 : Below V0.heap.size V0 X0 := by rw [hX0]; exact below_alloc _ _
  clear hX0
  refine hK _ _ hx0 fun V1 hu1 => ?_
  clear hK K
  have y1 := (hu1.block _ (size_of_block y0)).trans y0
  have S1 := below_then hx0 hu1
  have C1 := below_then C0 S1
  have D1 := below_then hb0 S1
  have g1 := (HG.out.later C1).more C1.size
  refine wpTr_step rfl rfl fun K hK => ?_
  go_simp
  refine (HQ.out V1 at_ hat.out V0.heap.size y1 g1).mono ?_
  rintro e X1 ⟨rfl, hx1⟩
  refine hK _ _ hx1 fun V2_1 hu2 => ?_
  clear hK K
  have S2 := below_then hx1 hu2
  have D2 := below_then D1 S2
  replace qb := below_then C1 S2
  replace q0 := (D2.block _ zq0).trans q0
  replace q1 := (D2.block _ zq1).trans q1
  replace q2 := (D2.block _ zq2).trans q2
  clear y0 y1 hx0 hu1 S1 C0 C1 D1 g1 hx1 hu2 S2 D2 hb0 hu zq0 zq1 zq2
  show wpPure _ _ _ _
  refine wpPure_step (.int .i64 (endLo f ls at_)) rfl (fun u => by simp [execOp, go_sem, Tryz.fieldEnd0]) ?_
  refine wpPure_step (.bool (decide (need ≤ endLo f ls at_))) rfl (fun u => rfl) ?_
  intro ks hk _ _
  obtain rfl : ks = [] := List.length_eq_zero_iff.1 hk
  clear hk
  show wpList _ _ _ _ _ _
  simp only [deco]
  by_cases h1 : need ≤ endLo f ls at_
  · have d1 : decide (need ≤ endLo f ls at_) = true := decide_eq_true h1
    have HV := Lib.hid (HN.out.trans (if_pos h1))
    rw [d1]
    clear h1 d1
    go_wp2_with fail
    refine wp_region_looseM [] [0, 2] (.one 1 (.one 3 .done)) [] [4] [5, 6] [] [] (by kernel_rfl) (by kernel_rfl) (by intro c a d v w h; cases d <;> exact h) (by intro c a d v w h; cases d <;> exact h) rfl (fun r i h => by simp at h) ?_
    simp only [pick, List.filterMap_cons, List.filterMap_nil, List.getElem?_toArray, List.getElem?_cons_succ, List.getElem?_cons_zero]
    intro u hu
    replace q0 := (hu.block _ (size_of_block q0)).trans q0
    replace q1 := (hu.block _ (size_of_block q1)).trans q1
    replace q2 := (hu.block _ (size_of_block q2)).trans q2
    replace qb := below_then qb hu
    have zq0 := size_of_block q0
    have zq1 := size_of_block q1
    have zq2 := size_of_block q2
    have s0 := Joins.cell_of_block q0 0
    have s1 := Joins.cell_of_block q0 1
    have s2 := Joins.cell_of_block q0 2
    have s3 := Joins.cell_of_block q0 3
    have s4 := Joins.cell_of_block q0 4
    have tq10 := Joins.cell_of_block q1 0
    have tq11 := Joins.cell_of_block q1 1
    have tq20 := Joins.cell_of_block q2 0
    have tq21 := Joins.cell_of_block q2 1
    have hcg : ∀ (g : Gr u) b o, b < u.heap.size → g.val.cell? ⟨b, o, none⟩ = u.cell? ⟨b, o, none⟩ := fun g b o h => (bcell g.b).1 b o h
    iterate 2 (refine wpRel_step (fun K hK => ?_); go_simp; refine hK _ ?_; clear hK K)
    refine wpRel_nil fun V0 hb0 => ?_
    clear hcg s0 s1 s2 s3 s4 tq10 tq11 tq20 tq21
    have C0 := below_then qb hb0
    refine wpTr_step rfl rfl fun K hK => ?_
    go_simp
    refine (hL V0).mono ?_
    rintro e X0 ⟨rfl, hX0⟩
    have y0 : X0.heap[V0.heap.size]? = some (.cells #[.int .i64 f.rise, .int .i64 f.fall, .int .i64 f.up, .int .i64 f.down, .func (.func gf) #[] lb] 114) := by rw [hX0]; exact heap_alloc_new _ _
    have hx0 : Below V0.heap.size V0 X0 := by rw [hX0]; exact below_alloc _ _
    clear hX0
    refine hK _ _ hx0 fun V1 hu1 => ?_
    clear hK K
    have y1 := (hu1.block _ (size_of_block y0)).trans y0
    have S1 := below_then hx0 hu1
    have C1 := below_then C0 S1
    have D1 := below_then hb0 S1
    have g1 := (HG.out.later C1).more C1.size
    refine wpTr_step rfl rfl fun K hK => ?_
    go_simp
    refine (HQ.out V1 look hlook.out V0.heap.size y1 g1).mono ?_
    rintro e X1 ⟨rfl, hx1⟩
    refine hK _ _ hx1 fun V2_2 hu2 => ?_
    clear hK K
    have S2 := below_then hx1 hu2
    have D2 := below_then D1 S2
    replace qb := below_then C1 S2
    replace q0 := (D2.block _ zq0).trans q0
    replace q1 := (D2.block _ zq1).trans q1
    replace q2 := (D2.block _ zq2).trans q2
    clear y0 y1 hx0 hu1 S1 C0 C1 D1 g1 hx1 hu2 S2 D2 hb0 hu zq0 zq1 zq2
    show wpPure _ _ _ _
    refine wpPure_step (.int .i64 (endLo f ls look)) rfl (fun u => by simp [execOp, go_sem, Tryz.fieldEnd0]) ?_
    intro ks hk _ _
    obtain rfl : ks = [] := List.length_eq_zero_iff.1 hk
    clear hk
    show wpList _ _ _ _ _ _
    simp only [deco]
    go_wp2_with fail
    refine bodyPost_ret (v := .tuple #[.int .i64 (endLo f ls look), .bool true]) ?_ rfl ⟨by rw [HR.out, HO.out, HV.out, if_neg (by have := HL0.out; omega), decide_eq_true HL0.out], qb⟩
    simp [results, Tryz.results103, go_sem]
  · have d1 : decide (need ≤ endLo f ls at_) = false := decide_eq_false h1
    have HV1 := Lib.hid (HN.out.trans (if_neg h1))
    rw [d1]
    clear h1 d1
    have s0 := Joins.cell_of_block q0 0
    have s1 := Joins.cell_of_block q0 1
    have s2 := Joins.cell_of_block q0 2
    have s3 := Joins.cell_of_block q0 3
    have t0 := Joins.cell_of_block q1 0
    have t1 := Joins.cell_of_block q1 1
    have u0 := Joins.cell_of_block q2 0
    have u1 := Joins.cell_of_block q2 1
    go_wp2_with fail
    refine (hF _).mono ?_
    rintro e W4 ⟨rfl, hb4⟩
    clear s0 s1 s2 s3 t0 t1 u0 u1
    replace q0 := (hb4.block _ (size_of_block q0)).trans q0
    replace q1 := (hb4.block _ (size_of_block q1)).trans q1
    replace q2 := (hb4.block _ (size_of_block q2)).trans q2
    replace qb := below_then qb hb4
    clear hb4
    go_wp2_with fail
    refine wp_region_looseM [0] [1, 3] (.one 2 (.one 4 .done)) [] [5, 6] [] [] [] (by kernel_rfl) (by kernel_rfl) (by intro c a d v w h; cases d <;> exact h) (by intro c a d v w h; cases d <;> exact h) rfl (fun r i h => by simp at h) ?_
    simp only [pick, List.filterMap_cons, List.filterMap_nil, List.getElem?_toArray, List.getElem?_cons_succ, List.getElem?_cons_zero]
    refine wpPure_step (.int .i64 (need + far)) rfl (fun u => rfl) ?_
    intro u hu
    replace q0 := (hu.block _ (size_of_block q0)).trans q0
    replace q1 := (hu.block _ (size_of_block q1)).trans q1
    replace q2 := (hu.block _ (size_of_block q2)).trans q2
    replace qb := below_then qb hu
    have zq0 := size_of_block q0
    have zq1 := size_of_block q1
    have zq2 := size_of_block q2
    have s0 := Joins.cell_of_block q0 0
    have s1 := Joins.cell_of_block q0 1
    have s2 := Joins.cell_of_block q0 2
    have s3 := Joins.cell_of_block q0 3
    have s4 := Joins.cell_of_block q0 4
    have tq10 := Joins.cell_of_block q1 0
    have tq11 := Joins.cell_of_block q1 1
    have tq20 := Joins.cell_of_block q2 0
    have tq21 := Joins.cell_of_block q2 1
    have hcg : ∀ (g : Gr u) b o, b < u.heap.size → g.val.cell? ⟨b, o, none⟩ = u.cell? ⟨b, o, none⟩ := fun g b o h => (bcell g.b).1 b o h
    iterate 2 (refine wpRel_step (fun K hK => ?_); go_simp; refine hK _ ?_; clear hK K)
    refine wpRel_nil fun V0 hb0 => ?_
    clear hcg s0 s1 s2 s3 s4 tq10 tq11 tq20 tq21
    have C0 := below_then qb hb0
    refine wpTr_step rfl rfl fun K hK => ?_
    go_simp
    refine (hH V0).mono ?_
    rintro e X0 ⟨rfl, hX0⟩
    have y0 : X0.heap[V0.heap.size]? = some (.cells #[.int .i64 f.rise, .int .i64 f.fall, .int .i64 f.up, .int .i64 f.down, .func (.func gf) #[] lb] 114) := by rw [hX0]; exact heap_alloc_new _ _
    have hx0 : Below V0.heap.size V0 X0 := by rw [hX0]; exact below_alloc _ _
    clear hX0
    refine hK _ _ hx0 fun V1 hu1 => ?_
    clear hK K
    have y1 := (hu1.block _ (size_of_block y0)).trans y0
    have S1 := below_then hx0 hu1
    have C1 := below_then C0 S1
    have D1 := below_then hb0 S1
    have g1 := (HG.out.later C1).more C1.size
    refine wpTr_step rfl rfl fun K hK => ?_
    go_simp
    refine (HQ2.out V1 look hlook.out V0.heap.size y1 g1).mono ?_
    rintro e X1 ⟨rfl, hx1⟩
    refine hK _ _ hx1 fun V2_3 hu2 => ?_
    clear hK K
    have S2 := below_then hx1 hu2
    have D2 := below_then D1 S2
    replace qb := below_then C1 S2
    replace q0 := (D2.block _ zq0).trans q0
    replace q1 := (D2.block _ zq1).trans q1
    replace q2 := (D2.block _ zq2).trans q2
    clear y0 y1 hx0 hu1 S1 C0 C1 D1 g1 hx1 hu2 S2 D2 hb0 hu zq0 zq1 zq2
    show wpPure _ _ _ _
    refine wpPure_step (.int .i64 (endHi f ls look)) rfl (fun u => by simp [execOp, go_sem, Tryz.fieldEnd0]) ?_
    refine wpPure_step (.bool (decide (endHi f ls look < need + far))) rfl (fun u => rfl) ?_
    intro ks hk _ _
    obtain rfl : ks = [] := List.length_eq_zero_iff.1 hk
    clear hk
    show wpList _ _ _ _ _ _
    simp only [deco]
    by_cases h2 : endHi f ls look < need + far
    · have d2 : decide (endHi f ls look < need + far) = true := decide_eq_true h2
      have HV := Lib.hid (HV1.out.trans (if_pos h2))
      rw [d2]
      clear h2 d2
      go_wp2_with fail
      refine bodyPost_ret (v := .tuple #[.int .i64 0, .bool false]) ?_ rfl ⟨by rw [HR.out, HO.out, HV.out]; rfl, qb⟩
      simp [results, Tryz.results103, go_sem]
    · have d2 : decide (endHi f ls look < need + far) = false := decide_eq_false h2
      have HV := Lib.hid (HV1.out.trans (if_neg h2))
      rw [d2]
      clear h2 d2
      go_wp2_with fail
      refine bodyPost_ret (v := .tuple #[.int .i64 (need + far), .bool true]) ?_ rfl ⟨by rw [HR.out, HO.out, HV.out, if_neg (by omega), decide_eq_true (by omega)], qb⟩
      simp [results, Tryz.results103, go_sem]
end Go.Proofs.YtjpoacffnpgjdaaGreat
/- Needed: by the program (written by tools/genneeded2.py). -/
namespace Go.Proofs.YtjpoacffnpgjdaaGreat
open Go Go.RowKit Go.Shelf
attribute [local go_sem] Oper.semAt_some Rel RelAt RelUpon

theorem spts2 {w : World} {p q : Spt} {k : Nat} {t : TypeId} (h : w.heap[k]? = some (.cells #[.int .i64 p.foot, .int .i64 p.hour, .int .i64 q.foot, .int .i64 q.hour] t)) : Spts w w.heap.size (.slice (some ⟨k, 0, none⟩) 2 2) [p, q] := by
  refine ⟨some ⟨k, 0, none⟩, 2, rfl, by simp, by simp, fun _ => ⟨k, 0, rfl, size_of_block h, fun i x hx j u hu => ?_⟩⟩
  match i, hx with
  | 0, hx =>
    obtain rfl : p = x := by simpa using hx
    match j, hu with
    | 0, hu => cases hu; exact Joins.cell_of_block h 0
    | 1, hu => cases hu; exact Joins.cell_of_block h 1
    | j + 2, hu => simp [sC] at hu
  | 1, hx =>
    obtain rfl : q = x := by simpa using hx
    match j, hu with
    | 0, hu => cases hu; exact Joins.cell_of_block h 2
    | 1, hu => cases hu; exact Joins.cell_of_block h 3
    | j + 2, hu => simp [sC] at hu
  | i + 2, hx => simp at hx
set_option maxRecDepth 100000 in
set_option maxHeartbeats 8000000 in
theorem Needed_c (f : Fi) (vl : Value) (look at_ : Spt) (need : Int) (w : World) (hl : Lks w w.heap.size vl f.ls) :
    Calls Tryz.prog 49 #[fiV f vl, sV look, sV at_, .int .i64 need] w fun e w' => e = .returned (.tuple #[.int .i64 (neededR f look at_ need).1, .bool (neededR f look at_ need).2, .int .i64 (needE f look at_ need)]) ∧ Below w.heap.size w w' := by
  obtain ⟨A, cap, rfl⟩ := hl.form
  obtain ⟨q0, q1, q2, qs, qb⟩ := three_new w (.cells #[.int .i64 f.rise, .int .i64 f.fall, .int .i64 f.up, .int .i64 f.down, .slice A f.ls.length cap] 24) (.cells #[.int .i64 look.foot, .int .i64 look.hour] 26) (.cells #[.int .i64 at_.foot, .int .i64 at_.hour] 26)
  obtain ⟨R1, hR1⟩ : ∃ r, r = (neededR f look at_ need).1 := ⟨_, rfl⟩
  obtain ⟨R2, hR2⟩ : ∃ r, r = (neededR f look at_ need).2 := ⟨_, rfl⟩
  rw [← hR1, ← hR2]
  have HR1 := Lib.hid hR1
  have HR2 := Lib.hid hR2
  clear hR1 hR2
  have hK' := fun ve errs W (hb : Below w.heap.size w W) => known_c f (.slice A f.ls.length cap) ve errs W (hl.later hb)
  unfold fiV at hK' ⊢
  unfold sV
  go_enter Tryz.func49, Tryz.ntmps49
  go_wp2_with fail
  have QS := Lib.hid qs
  clear qs
  generalize ((w.alloc _).alloc _).alloc _ = W3 at q0 q1 q2 QS qb ⊢
  generalize hpe1 : spot2E look at_ = pe1
  generalize hpe2 : heatE need = pe2
  refine wp_region_looseT [0, 1, 2, 5] (.alt (.one 3 (.alt (.one 4 (.one 6 (.one 7 (.one 8 (.one 9 .done))))) (.one 6 (.one 4 (.one 7 (.one 8 (.one 9 .done))))))) (.one 6 (.one 3 (.one 4 (.one 7 (.one 8 (.one 9 .done))))))) [13] [10, 11, 12] [14, 15] [some 11] [.cells #[.int .i64 0, .int .i64 0, .int .i64 0, .int .i64 0, .nilFunc] 114] (by kernel_rfl) (by kernel_rfl) (by intro c a d v w h; cases d <;> exact h) (by intro c a d v w h; cases d <;> exact h) rfl ?_ ?_
  · intro r i hri
    match r, hri with
    | 0, hri => cases hri; exact ⟨_, _, rfl, rfl, rfl, rfl, fun a u => by simp [execOp, go_sem, ptrV]⟩
  · intro u hu
    replace q0 := (hu.block _ (size_of_block q0)).trans q0
    replace q1 := (hu.block _ (size_of_block q1)).trans q1
    replace q2 := (hu.block _ (size_of_block q2)).trans q2
    replace qb := below_then qb hu
    have zq0 := size_of_block q0
    have cq00 := Joins.cell_of_block q0 0
    have cq01 := Joins.cell_of_block q0 1
    have cq02 := Joins.cell_of_block q0 2
    have cq03 := Joins.cell_of_block q0 3
    have cq04 := Joins.cell_of_block q0 4
    have zq1 := size_of_block q1
    have cq10 := Joins.cell_of_block q1 0
    have cq11 := Joins.cell_of_block q1 1
    have zq2 := size_of_block q2
    have cq20 := Joins.cell_of_block q2 0
    have cq21 := Joins.cell_of_block q2 1
    have hcg : ∀ (g : Gr u) b o, b < u.heap.size → g.val.cell? ⟨b, o, none⟩ = u.cell? ⟨b, o, none⟩ := fun g b o h => (bcell g.b).1 b o h
    simp only [pick, List.filterMap_cons, List.filterMap_nil, List.getElem?_toArray, List.getElem?_cons_succ, List.getElem?_cons_zero]
    iterate 4 (refine wpRel_step (fun K hK => ?_); go_simp; refine hK _ ?_; clear hK K)
    refine wpRel_nil fun V0 hb0 => ?_
    clear hcg cq00 cq01 cq02 cq03 cq04 cq10 cq11 cq20 cq21
    have C0 := below_then qb hb0
    have D0 := hb0
    refine wpTr_alt ?_ ?_
    · refine wpTr_step rfl rfl fun K hK => ?_
      go_simp
      refine hK _ _ (below_alloc _ _) fun V1 hu1 => ?_
      clear hK K
      have ys := (hu1.block _ (by simp)).trans (heap_alloc_new V0 (.cells #[.int .i64 look.foot, .int .i64 look.hour, .int .i64 at_.foot, .int .i64 at_.hour] 26))
      have S1 := below_then (below_alloc V0 (.cells #[.int .i64 look.foot, .int .i64 look.hour, .int .i64 at_.foot, .int .i64 at_.hour] 26)) hu1
      have C1 := below_then C0 S1
      have D1 := below_then D0 S1
      refine wpTr_alt ?_ ?_
      · refine wpTr_step rfl rfl fun K hK => ?_
        go_simp
        refine (checkSpots_c _ [look, at_] V1 (spts2 ys)).mono ?_
        rintro e X1 ⟨rfl, hx1⟩
        rw [show (if [look, at_].all spotB then (0 : Int) else 1) = spot2E look at_ by simp [spot2E], hpe1]
        refine hK _ _ hx1 fun V2 hu2 => ?_
        clear hK K
        have S2 := below_then hx1 hu2
        have C2 := below_then C1 S2
        have D2 := below_then D1 S2
        replace ys := (S2.block _ (size_of_block ys)).trans ys
        refine wpTr_step rfl rfl fun K hK => ?_
        go_simp
        refine hK _ _ (below_alloc _ _) fun V3 hu3 => ?_
        clear hK K
        have yn := (hu3.block _ (by simp)).trans (heap_alloc_new V2 (.cells #[.int .i64 need] 3))
        have S3 := below_then (below_alloc V2 (.cells #[.int .i64 need] 3)) hu3
        have C3 := below_then C2 S3
        have D3 := below_then D2 S3
        replace ys := (S3.block _ (size_of_block ys)).trans ys
        refine wpTr_step rfl rfl fun K hK => ?_
        go_simp
        refine (checkHeats_c _ [need] V3 (ints1 yn)).mono ?_
        rintro e X3 ⟨rfl, hx3⟩
        rw [show (if [need].all heatB then (0 : Int) else 1) = heatE need by simp [heatE], hpe2]
        refine hK _ _ hx3 fun V4 hu4 => ?_
        clear hK K
        have S4 := below_then hx3 hu4
        have C4 := below_then C3 S4
        have D4 := below_then D3 S4
        replace ys := (S4.block _ (size_of_block ys)).trans ys
        replace yn := (S4.block _ (size_of_block yn)).trans yn
        refine wpTr_step rfl rfl fun K hK => ?_
        go_simp
        refine hK _ _ (below_alloc _ _) fun V5 hu5 => ?_
        clear hK K
        have ye := (hu5.block _ (by simp)).trans (heap_alloc_new V4 (.cells #[.int .i64 pe1, .int .i64 pe2] 30))
        have S5 := below_then (below_alloc V4 (.cells #[.int .i64 pe1, .int .i64 pe2] 30)) hu5
        have C5 := below_then C4 S5
        have D5 := below_then D4 S5
        replace ys := (S5.block _ (size_of_block ys)).trans ys
        replace yn := (S5.block _ (size_of_block yn)).trans yn
        refine wpTr_step rfl rfl fun K hK => ?_
        go_simp
        refine (hK' _ [pe1, pe2] V5 C5 (ints2 ye)).mono ?_
        rintro e X5 ⟨sv, rfl, hz, hn, hx5⟩
        refine hK _ _ hx5 fun V6 hu6 => ?_
        clear hK K
        have S6 := below_then hx5 hu6
        have C6 := below_then C5 S6
        have D6 := below_then D5 S6
        replace ys := (S6.block _ (size_of_block ys)).trans ys
        replace yn := (S6.block _ (size_of_block yn)).trans yn
        replace ye := (S6.block _ (size_of_block ye)).trans ye
        obtain ⟨row, hrow, h5, h1c⟩ := sight_row hz hn
        have N10 : Hid (∀ k, k < X5.heap.size → V6.heap[k]? = X5.heap[k]?) := fun k h => hu6.block k h
        have Qq0 := (D6.block _ zq0).trans q0
        have Qq1 := (D6.block _ zq1).trans q1
        have Qq2 := (D6.block _ zq2).trans q2
        have n10 := hu6.size
        have n9 := hx5.size
        clear ys yn ye C0 C1 C2 C3 C4 C5 D0 D1 D2 D3 D4 D5 D6 S1 S2 S3 S4 S5 S6 hu1 hu2 hu3 hu4 hu5 hu6 hK' hb0 q0 q1 q2
        have HZ := Lib.hid hz
        have HN := Lib.hid hn
        have HROW := Lib.hid hrow
        clear hz hn
        generalize hke : knownE f [pe1, pe2] = ke at HZ HN ⊢
        rw [hrow]
        refine wpPure_step (.tuple #[.agg row, .int .i64 ke]) rfl (fun u => rfl) ?_
        refine wpPure_step (.agg row) rfl (fun u => rfl) ?_
        refine wpPure_step (.int .i64 ke) rfl (fun u => rfl) ?_
        intro ks hk hall hH
        obtain ⟨k1, rfl⟩ : ∃ k1, ks = [some k1] := by
          match ks, hk with
          | [none], _ => exact absurd rfl (hall 0)
          | [some k1], _ => exact ⟨k1, rfl⟩
        obtain ⟨o1, ge1, lt1⟩ := hH.obj 0 k1 rfl
        have ou := hH.out 0 k1 rfl (V5.heap.size, X5.heap.size) (by simp)
        rw [show ([Obj.cells #[.int .i64 0, .int .i64 0, .int .i64 0, .int .i64 0, .nilFunc] 114])[0]? = some (.cells #[.int .i64 0, .int .i64 0, .int .i64 0, .int .i64 0, .nilFunc] 114) from rfl] at o1
        rw [QS.out] at ge1
        clear hH hall hk
        have hkq0 : k1 ≠ w.heap.size := by omega
        have hkq1 : k1 ≠ w.heap.size + 1 := by omega
        have hkq2 : k1 ≠ w.heap.size + 1 + 1 := by omega
        show wpList _ _ _ _ _ _
        simp only [deco, ptrV]
        refine wpList_store_rowTo rfl 114 _ _ rfl rfl k1 row rfl rfl 114 _ o1 (by rw [Tryz.zSightSize, h5]) (by rw [h5]; rfl) h1c ?_
        have r1 := setRow_heap V6 k1 _ row _ _ o1
        have rq0 := (setRow_other V6 k1 (w.heap.size) row (Ne.symm hkq0)).trans Qq0
        have rq1 := (setRow_other V6 k1 (w.heap.size + 1) row (Ne.symm hkq1)).trans Qq1
        have rq2 := (setRow_other V6 k1 (w.heap.size + 1 + 1) row (Ne.symm hkq2)).trans Qq2
        have B11 := below_setRow C6 (show w.heap.size ≤ k1 by omega) row
        have K11 : Hid (∀ k, V5.heap.size ≤ k → k < X5.heap.size → (V6.setRow k1 row).heap[k]? = X5.heap[k]?) := fun k h1 h2 => (setRow_other V6 k1 k row (by omega)).trans (N10.out k h2)
        have z11 := size_setRow V6 k1 row
        have n11 : X5.heap.size ≤ (V6.setRow k1 row).heap.size := by omega
        generalize V6.setRow k1 row = W11 at r1 rq0 rq1 rq2 B11 K11 n11 z11 ⊢
        clear o1 Qq0 Qq1 Qq2 C6 N10 z11 n10 n9 ou lt1
        have HE : Hid (needE f look at_ need = ke) := by show needE f look at_ need = ke; unfold needE; rw [hpe1, hpe2, hke]
        by_cases h0 : ke = 0
        · obtain ⟨S, hS, hKn⟩ := HZ.out h0
          obtain ⟨gf, lb, hform⟩ := hKn.form
          have hgv := hKn.gives gf lb hform W11 (fun k h1 h2 => K11.out k h1 h2) n11
          obtain rfl : row = #[.int .i64 f.rise, .int .i64 f.fall, .int .i64 f.up, .int .i64 f.down, .func (.func gf) #[] lb] := by
            have e := HROW.out.symm.trans hform
            simpa [siV] using e
          subst h0
          have h1 := first2.1 (known_zero hke).2.1
          rw [← hpe1, ← hpe2] at h1
          have hp := spot2E_iff.1 h1.1
          have hn := heatE_iff.1 h1.2
          have hn2 : 0 ≤ need ∧ need ≤ 1500 := by simpa [heatB, inF] using hn
          have HV1 : Hid (R1 = if needI f f.ls look at_ need < 0 then 0 else needI f f.ls look at_ need) := by show R1 = _; rw [HR1.out]; unfold neededR; rw [if_pos HE.out]; split <;> rfl
          have HV2 : Hid (R2 = decide (0 ≤ needI f f.ls look at_ need)) := by show R2 = _; rw [HR2.out]; unfold neededR; rw [if_pos HE.out]; by_cases hh : needI f f.ls look at_ need < 0 <;> simp [hh] <;> omega
          have hN := needed_c f S f.ls gf lb look at_ need W11 hS hp.1 hp.2 hn2 hgv
          unfold siV sV at hN
          generalize (if needI f f.ls look at_ need < 0 then 0 else needI f f.ls look at_ need) = x1 at hN HV1
          generalize decide (0 ≤ needI f f.ls look at_ need) = x2 at hN HV2
          clear hgv hKn hform HZ HN HROW K11 hS hpe1 hpe2 hke h5 h1c h1 hp hn hn2
          have c0 := Joins.cell_of_block r1 0
          have c1 := Joins.cell_of_block r1 1
          have c2 := Joins.cell_of_block r1 2
          have c3 := Joins.cell_of_block r1 3
          have c4 := Joins.cell_of_block r1 4
          have t0 := Joins.cell_of_block rq1 0
          have t1 := Joins.cell_of_block rq1 1
          have u0 := Joins.cell_of_block rq2 0
          have u1 := Joins.cell_of_block rq2 1
          go_wp2_with fail
          refine hN.mono ?_
          rintro e W12 ⟨rfl, hb12⟩
          have B12 := below_then B11 hb12
          clear hN c0 c1 c2 c3 c4 t0 t1 u0 u1 hb12
          go_wp2_with fail
          refine bodyPost_ret (v := .tuple #[.int .i64 x1, .bool x2, .int .i64 0]) ?_ rfl ⟨by rw [HV1.out, HV2.out, HE.out], B12⟩
          simp [results, Tryz.results49, go_sem]
        · have d1 : (ke != 0) = true := by simpa using h0
          have HV1 : Hid (R1 = 0) := by show R1 = _; rw [HR1.out]; unfold neededR; rw [HE.out, if_neg h0]
          have HV2 : Hid (R2 = false) := by show R2 = _; rw [HR2.out]; unfold neededR; rw [HE.out, if_neg h0]
          clear h0 HZ HN HROW K11 hpe1 hpe2 hke h5 h1c
          go_wp2_with fail
          refine bodyPost_ret (v := .tuple #[.int .i64 0, .bool false, .int .i64 ke]) ?_ rfl ⟨by rw [HV1.out, HV2.out, HE.out], B11⟩
          simp [results, Tryz.results49, go_sem]
      · refine wpTr_step rfl rfl fun K hK => ?_
        go_simp
        refine hK _ _ (below_alloc _ _) fun V2 hu2 => ?_
        clear hK K
        have yn := (hu2.block _ (by simp)).trans (heap_alloc_new V1 (.cells #[.int .i64 need] 3))
        have S2 := below_then (below_alloc V1 (.cells #[.int .i64 need] 3)) hu2
        have C2 := below_then C1 S2
        have D2 := below_then D1 S2
        replace ys := (S2.block _ (size_of_block ys)).trans ys
        refine wpTr_step rfl rfl fun K hK => ?_
        go_simp
        refine (checkSpots_c _ [look, at_] V2 (spts2 ys)).mono ?_
        rintro e X2 ⟨rfl, hx2⟩
        rw [show (if [look, at_].all spotB then (0 : Int) else 1) = spot2E look at_ by simp [spot2E], hpe1]
        refine hK _ _ hx2 fun V3 hu3 => ?_
        clear hK K
        have S3 := below_then hx2 hu3
        have C3 := below_then C2 S3
        have D3 := below_then D2 S3
        replace ys := (S3.block _ (size_of_block ys)).trans ys
        replace yn := (S3.block _ (size_of_block yn)).trans yn
        refine wpTr_step rfl rfl fun K hK => ?_
        go_simp
        refine (checkHeats_c _ [need] V3 (ints1 yn)).mono ?_
        rintro e X3 ⟨rfl, hx3⟩
        rw [show (if [need].all heatB then (0 : Int) else 1) = heatE need by simp [heatE], hpe2]
        refine hK _ _ hx3 fun V4 hu4 => ?_
        clear hK K
        have S4 := below_then hx3 hu4
        have C4 := below_then C3 S4
        have D4 := below_then D3 S4
        replace ys := (S4.block _ (size_of_block ys)).trans ys
        replace yn := (S4.block _ (size_of_block yn)).trans yn
        refine wpTr_step rfl rfl fun K hK => ?_
        go_simp
        refine hK _ _ (below_alloc _ _) fun V5 hu5 => ?_
        clear hK K
        have ye := (hu5.block _ (by simp)).trans (heap_alloc_new V4 (.cells #[.int .i64 pe1, .int .i64 pe2] 30))
        have S5 := below_then (below_alloc V4 (.cells #[.int .i64 pe1, .int .i64 pe2] 30)) hu5
        have C5 := below_then C4 S5
        have D5 := below_then D4 S5
        replace ys := (S5.block _ (size_of_block ys)).trans ys
        replace yn := (S5.block _ (size_of_block yn)).trans yn
        refine wpTr_step rfl rfl fun K hK => ?_
        go_simp
        refine (hK' _ [pe1, pe2] V5 C5 (ints2 ye)).mono ?_
        rintro e X5 ⟨sv, rfl, hz, hn, hx5⟩
        refine hK _ _ hx5 fun V6 hu6 => ?_
        clear hK K
        have S6 := below_then hx5 hu6
        have C6 := below_then C5 S6
        have D6 := below_then D5 S6
        replace ys := (S6.block _ (size_of_block ys)).trans ys
        replace yn := (S6.block _ (size_of_block yn)).trans yn
        replace ye := (S6.block _ (size_of_block ye)).trans ye
        obtain ⟨row, hrow, h5, h1c⟩ := sight_row hz hn
        have N10 : Hid (∀ k, k < X5.heap.size → V6.heap[k]? = X5.heap[k]?) := fun k h => hu6.block k h
        have Qq0 := (D6.block _ zq0).trans q0
        have Qq1 := (D6.block _ zq1).trans q1
        have Qq2 := (D6.block _ zq2).trans q2
        have n10 := hu6.size
        have n9 := hx5.size
        clear ys yn ye C0 C1 C2 C3 C4 C5 D0 D1 D2 D3 D4 D5 D6 S1 S2 S3 S4 S5 S6 hu1 hu2 hu3 hu4 hu5 hu6 hK' hb0 q0 q1 q2
        have HZ := Lib.hid hz
        have HN := Lib.hid hn
        have HROW := Lib.hid hrow
        clear hz hn
        generalize hke : knownE f [pe1, pe2] = ke at HZ HN ⊢
        rw [hrow]
        refine wpPure_step (.tuple #[.agg row, .int .i64 ke]) rfl (fun u => rfl) ?_
        refine wpPure_step (.agg row) rfl (fun u => rfl) ?_
        refine wpPure_step (.int .i64 ke) rfl (fun u => rfl) ?_
        intro ks hk hall hH
        obtain ⟨k1, rfl⟩ : ∃ k1, ks = [some k1] := by
          match ks, hk with
          | [none], _ => exact absurd rfl (hall 0)
          | [some k1], _ => exact ⟨k1, rfl⟩
        obtain ⟨o1, ge1, lt1⟩ := hH.obj 0 k1 rfl
        have ou := hH.out 0 k1 rfl (V5.heap.size, X5.heap.size) (by simp)
        rw [show ([Obj.cells #[.int .i64 0, .int .i64 0, .int .i64 0, .int .i64 0, .nilFunc] 114])[0]? = some (.cells #[.int .i64 0, .int .i64 0, .int .i64 0, .int .i64 0, .nilFunc] 114) from rfl] at o1
        rw [QS.out] at ge1
        clear hH hall hk
        have hkq0 : k1 ≠ w.heap.size := by omega
        have hkq1 : k1 ≠ w.heap.size + 1 := by omega
        have hkq2 : k1 ≠ w.heap.size + 1 + 1 := by omega
        show wpList _ _ _ _ _ _
        simp only [deco, ptrV]
        refine wpList_store_rowTo rfl 114 _ _ rfl rfl k1 row rfl rfl 114 _ o1 (by rw [Tryz.zSightSize, h5]) (by rw [h5]; rfl) h1c ?_
        have r1 := setRow_heap V6 k1 _ row _ _ o1
        have rq0 := (setRow_other V6 k1 (w.heap.size) row (Ne.symm hkq0)).trans Qq0
        have rq1 := (setRow_other V6 k1 (w.heap.size + 1) row (Ne.symm hkq1)).trans Qq1
        have rq2 := (setRow_other V6 k1 (w.heap.size + 1 + 1) row (Ne.symm hkq2)).trans Qq2
        have B11 := below_setRow C6 (show w.heap.size ≤ k1 by omega) row
        have K11 : Hid (∀ k, V5.heap.size ≤ k → k < X5.heap.size → (V6.setRow k1 row).heap[k]? = X5.heap[k]?) := fun k h1 h2 => (setRow_other V6 k1 k row (by omega)).trans (N10.out k h2)
        have z11 := size_setRow V6 k1 row
        have n11 : X5.heap.size ≤ (V6.setRow k1 row).heap.size := by omega
        generalize V6.setRow k1 row = W11 at r1 rq0 rq1 rq2 B11 K11 n11 z11 ⊢
        clear o1 Qq0 Qq1 Qq2 C6 N10 z11 n10 n9 ou lt1
        have HE : Hid (needE f look at_ need = ke) := by show needE f look at_ need = ke; unfold needE; rw [hpe1, hpe2, hke]
        by_cases h0 : ke = 0
        · obtain ⟨S, hS, hKn⟩ := HZ.out h0
          obtain ⟨gf, lb, hform⟩ := hKn.form
          have hgv := hKn.gives gf lb hform W11 (fun k h1 h2 => K11.out k h1 h2) n11
          obtain rfl : row = #[.int .i64 f.rise, .int .i64 f.fall, .int .i64 f.up, .int .i64 f.down, .func (.func gf) #[] lb] := by
            have e := HROW.out.symm.trans hform
            simpa [siV] using e
          subst h0
          have h1 := first2.1 (known_zero hke).2.1
          rw [← hpe1, ← hpe2] at h1
          have hp := spot2E_iff.1 h1.1
          have hn := heatE_iff.1 h1.2
          have hn2 : 0 ≤ need ∧ need ≤ 1500 := by simpa [heatB, inF] using hn
          have HV1 : Hid (R1 = if needI f f.ls look at_ need < 0 then 0 else needI f f.ls look at_ need) := by show R1 = _; rw [HR1.out]; unfold neededR; rw [if_pos HE.out]; split <;> rfl
          have HV2 : Hid (R2 = decide (0 ≤ needI f f.ls look at_ need)) := by show R2 = _; rw [HR2.out]; unfold neededR; rw [if_pos HE.out]; by_cases hh : needI f f.ls look at_ need < 0 <;> simp [hh] <;> omega
          have hN := needed_c f S f.ls gf lb look at_ need W11 hS hp.1 hp.2 hn2 hgv
          unfold siV sV at hN
          generalize (if needI f f.ls look at_ need < 0 then 0 else needI f f.ls look at_ need) = x1 at hN HV1
          generalize decide (0 ≤ needI f f.ls look at_ need) = x2 at hN HV2
          clear hgv hKn hform HZ HN HROW K11 hS hpe1 hpe2 hke h5 h1c h1 hp hn hn2
          have c0 := Joins.cell_of_block r1 0
          have c1 := Joins.cell_of_block r1 1
          have c2 := Joins.cell_of_block r1 2
          have c3 := Joins.cell_of_block r1 3
          have c4 := Joins.cell_of_block r1 4
          have t0 := Joins.cell_of_block rq1 0
          have t1 := Joins.cell_of_block rq1 1
          have u0 := Joins.cell_of_block rq2 0
          have u1 := Joins.cell_of_block rq2 1
          go_wp2_with fail
          refine hN.mono ?_
          rintro e W12 ⟨rfl, hb12⟩
          have B12 := below_then B11 hb12
          clear hN c0 c1 c2 c3 c4 t0 t1 u0 u1 hb12
          go_wp2_with fail
          refine bodyPost_ret (v := .tuple #[.int .i64 x1, .bool x2, .int .i64 0]) ?_ rfl ⟨by rw [HV1.out, HV2.out, HE.out], B12⟩
          simp [results, Tryz.results49, go_sem]
        · have d1 : (ke != 0) = true := by simpa using h0
          have HV1 : Hid (R1 = 0) := by show R1 = _; rw [HR1.out]; unfold neededR; rw [HE.out, if_neg h0]
          have HV2 : Hid (R2 = false) := by show R2 = _; rw [HR2.out]; unfold neededR; rw [HE.out, if_neg h0]
          clear h0 HZ HN HROW K11 hpe1 hpe2 hke h5 h1c
          go_wp2_with fail
          refine bodyPost_ret (v := .tuple #[.int .i64 0, .bool false, .int .i64 ke]) ?_ rfl ⟨by rw [HV1.out, HV2.out, HE.out], B11⟩
          simp [results, Tryz.results49, go_sem]
    · refine wpTr_step rfl rfl fun K hK => ?_
      go_simp
      refine hK _ _ (below_alloc _ _) fun V1 hu1 => ?_
      clear hK K
      have yn := (hu1.block _ (by simp)).trans (heap_alloc_new V0 (.cells #[.int .i64 need] 3))
      have S1 := below_then (below_alloc V0 (.cells #[.int .i64 need] 3)) hu1
      have C1 := below_then C0 S1
      have D1 := below_then D0 S1
      refine wpTr_step rfl rfl fun K hK => ?_
      go_simp
      refine hK _ _ (below_alloc _ _) fun V2 hu2 => ?_
      clear hK K
      have ys := (hu2.block _ (by simp)).trans (heap_alloc_new V1 (.cells #[.int .i64 look.foot, .int .i64 look.hour, .int .i64 at_.foot, .int .i64 at_.hour] 26))
      have S2 := below_then (below_alloc V1 (.cells #[.int .i64 look.foot, .int .i64 look.hour, .int .i64 at_.foot, .int .i64 at_.hour] 26)) hu2
      have C2 := below_then C1 S2
      have D2 := below_then D1 S2
      replace yn := (S2.block _ (size_of_block yn)).trans yn
      refine wpTr_step rfl rfl fun K hK => ?_
      go_simp
      refine (checkSpots_c _ [look, at_] V2 (spts2 ys)).mono ?_
      rintro e X2 ⟨rfl, hx2⟩
      rw [show (if [look, at_].all spotB then (0 : Int) else 1) = spot2E look at_ by simp [spot2E], hpe1]
      refine hK _ _ hx2 fun V3 hu3 => ?_
      clear hK K
      have S3 := below_then hx2 hu3
      have C3 := below_then C2 S3
      have D3 := below_then D2 S3
      replace yn := (S3.block _ (size_of_block yn)).trans yn
      replace ys := (S3.block _ (size_of_block ys)).trans ys
      refine wpTr_step rfl rfl fun K hK => ?_
      go_simp
      refine (checkHeats_c _ [need] V3 (ints1 yn)).mono ?_
      rintro e X3 ⟨rfl, hx3⟩
      rw [show (if [need].all heatB then (0 : Int) else 1) = heatE need by simp [heatE], hpe2]
      refine hK _ _ hx3 fun V4 hu4 => ?_
      clear hK K
      have S4 := below_then hx3 hu4
      have C4 := below_then C3 S4
      have D4 := below_then D3 S4
      replace yn := (S4.block _ (size_of_block yn)).trans yn
      replace ys := (S4.block _ (size_of_block ys)).trans ys
      refine wpTr_step rfl rfl fun K hK => ?_
      go_simp
      refine hK _ _ (below_alloc _ _) fun V5 hu5 => ?_
      clear hK K
      have ye := (hu5.block _ (by simp)).trans (heap_alloc_new V4 (.cells #[.int .i64 pe1, .int .i64 pe2] 30))
      have S5 := below_then (below_alloc V4 (.cells #[.int .i64 pe1, .int .i64 pe2] 30)) hu5
      have C5 := below_then C4 S5
      have D5 := below_then D4 S5
      replace yn := (S5.block _ (size_of_block yn)).trans yn
      replace ys := (S5.block _ (size_of_block ys)).trans ys
      refine wpTr_step rfl rfl fun K hK => ?_
      go_simp
      refine (hK' _ [pe1, pe2] V5 C5 (ints2 ye)).mono ?_
      rintro e X5 ⟨sv, rfl, hz, hn, hx5⟩
      refine hK _ _ hx5 fun V6 hu6 => ?_
      clear hK K
      have S6 := below_then hx5 hu6
      have C6 := below_then C5 S6
      have D6 := below_then D5 S6
      replace yn := (S6.block _ (size_of_block yn)).trans yn
      replace ys := (S6.block _ (size_of_block ys)).trans ys
      replace ye := (S6.block _ (size_of_block ye)).trans ye
      obtain ⟨row, hrow, h5, h1c⟩ := sight_row hz hn
      have N10 : Hid (∀ k, k < X5.heap.size → V6.heap[k]? = X5.heap[k]?) := fun k h => hu6.block k h
      have Qq0 := (D6.block _ zq0).trans q0
      have Qq1 := (D6.block _ zq1).trans q1
      have Qq2 := (D6.block _ zq2).trans q2
      have n10 := hu6.size
      have n9 := hx5.size
      clear yn ys ye C0 C1 C2 C3 C4 C5 D0 D1 D2 D3 D4 D5 D6 S1 S2 S3 S4 S5 S6 hu1 hu2 hu3 hu4 hu5 hu6 hK' hb0 q0 q1 q2
      have HZ := Lib.hid hz
      have HN := Lib.hid hn
      have HROW := Lib.hid hrow
      clear hz hn
      generalize hke : knownE f [pe1, pe2] = ke at HZ HN ⊢
      rw [hrow]
      refine wpPure_step (.tuple #[.agg row, .int .i64 ke]) rfl (fun u => rfl) ?_
      refine wpPure_step (.agg row) rfl (fun u => rfl) ?_
      refine wpPure_step (.int .i64 ke) rfl (fun u => rfl) ?_
      intro ks hk hall hH
      obtain ⟨k1, rfl⟩ : ∃ k1, ks = [some k1] := by
        match ks, hk with
        | [none], _ => exact absurd rfl (hall 0)
        | [some k1], _ => exact ⟨k1, rfl⟩
      obtain ⟨o1, ge1, lt1⟩ := hH.obj 0 k1 rfl
      have ou := hH.out 0 k1 rfl (V5.heap.size, X5.heap.size) (by simp)
      rw [show ([Obj.cells #[.int .i64 0, .int .i64 0, .int .i64 0, .int .i64 0, .nilFunc] 114])[0]? = some (.cells #[.int .i64 0, .int .i64 0, .int .i64 0, .int .i64 0, .nilFunc] 114) from rfl] at o1
      rw [QS.out] at ge1
      clear hH hall hk
      have hkq0 : k1 ≠ w.heap.size := by omega
      have hkq1 : k1 ≠ w.heap.size + 1 := by omega
      have hkq2 : k1 ≠ w.heap.size + 1 + 1 := by omega
      show wpList _ _ _ _ _ _
      simp only [deco, ptrV]
      refine wpList_store_rowTo rfl 114 _ _ rfl rfl k1 row rfl rfl 114 _ o1 (by rw [Tryz.zSightSize, h5]) (by rw [h5]; rfl) h1c ?_
      have r1 := setRow_heap V6 k1 _ row _ _ o1
      have rq0 := (setRow_other V6 k1 (w.heap.size) row (Ne.symm hkq0)).trans Qq0
      have rq1 := (setRow_other V6 k1 (w.heap.size + 1) row (Ne.symm hkq1)).trans Qq1
      have rq2 := (setRow_other V6 k1 (w.heap.size + 1 + 1) row (Ne.symm hkq2)).trans Qq2
      have B11 := below_setRow C6 (show w.heap.size ≤ k1 by omega) row
      have K11 : Hid (∀ k, V5.heap.size ≤ k → k < X5.heap.size → (V6.setRow k1 row).heap[k]? = X5.heap[k]?) := fun k h1 h2 => (setRow_other V6 k1 k row (by omega)).trans (N10.out k h2)
      have z11 := size_setRow V6 k1 row
      have n11 : X5.heap.size ≤ (V6.setRow k1 row).heap.size := by omega
      generalize V6.setRow k1 row = W11 at r1 rq0 rq1 rq2 B11 K11 n11 z11 ⊢
      clear o1 Qq0 Qq1 Qq2 C6 N10 z11 n10 n9 ou lt1
      have HE : Hid (needE f look at_ need = ke) := by show needE f look at_ need = ke; unfold needE; rw [hpe1, hpe2, hke]
      by_cases h0 : ke = 0
      · obtain ⟨S, hS, hKn⟩ := HZ.out h0
        obtain ⟨gf, lb, hform⟩ := hKn.form
        have hgv := hKn.gives gf lb hform W11 (fun k h1 h2 => K11.out k h1 h2) n11
        obtain rfl : row = #[.int .i64 f.rise, .int .i64 f.fall, .int .i64 f.up, .int .i64 f.down, .func (.func gf) #[] lb] := by
          have e := HROW.out.symm.trans hform
          simpa [siV] using e
        subst h0
        have h1 := first2.1 (known_zero hke).2.1
        rw [← hpe1, ← hpe2] at h1
        have hp := spot2E_iff.1 h1.1
        have hn := heatE_iff.1 h1.2
        have hn2 : 0 ≤ need ∧ need ≤ 1500 := by simpa [heatB, inF] using hn
        have HV1 : Hid (R1 = if needI f f.ls look at_ need < 0 then 0 else needI f f.ls look at_ need) := by show R1 = _; rw [HR1.out]; unfold neededR; rw [if_pos HE.out]; split <;> rfl
        have HV2 : Hid (R2 = decide (0 ≤ needI f f.ls look at_ need)) := by show R2 = _; rw [HR2.out]; unfold neededR; rw [if_pos HE.out]; by_cases hh : needI f f.ls look at_ need < 0 <;> simp [hh] <;> omega
        have hN := needed_c f S f.ls gf lb look at_ need W11 hS hp.1 hp.2 hn2 hgv
        unfold siV sV at hN
        generalize (if needI f f.ls look at_ need < 0 then 0 else needI f f.ls look at_ need) = x1 at hN HV1
        generalize decide (0 ≤ needI f f.ls look at_ need) = x2 at hN HV2
        clear hgv hKn hform HZ HN HROW K11 hS hpe1 hpe2 hke h5 h1c h1 hp hn hn2
        have c0 := Joins.cell_of_block r1 0
        have c1 := Joins.cell_of_block r1 1
        have c2 := Joins.cell_of_block r1 2
        have c3 := Joins.cell_of_block r1 3
        have c4 := Joins.cell_of_block r1 4
        have t0 := Joins.cell_of_block rq1 0
        have t1 := Joins.cell_of_block rq1 1
        have u0 := Joins.cell_of_block rq2 0
        have u1 := Joins.cell_of_block rq2 1
        go_wp2_with fail
        refine hN.mono ?_
        rintro e W12 ⟨rfl, hb12⟩
        have B12 := below_then B11 hb12
        clear hN c0 c1 c2 c3 c4 t0 t1 u0 u1 hb12
        go_wp2_with fail
        refine bodyPost_ret (v := .tuple #[.int .i64 x1, .bool x2, .int .i64 0]) ?_ rfl ⟨by rw [HV1.out, HV2.out, HE.out], B12⟩
        simp [results, Tryz.results49, go_sem]
      · have d1 : (ke != 0) = true := by simpa using h0
        have HV1 : Hid (R1 = 0) := by show R1 = _; rw [HR1.out]; unfold neededR; rw [HE.out, if_neg h0]
        have HV2 : Hid (R2 = false) := by show R2 = _; rw [HR2.out]; unfold neededR; rw [HE.out, if_neg h0]
        clear h0 HZ HN HROW K11 hpe1 hpe2 hke h5 h1c
        go_wp2_with fail
        refine bodyPost_ret (v := .tuple #[.int .i64 0, .bool false, .int .i64 ke]) ?_ rfl ⟨by rw [HV1.out, HV2.out, HE.out], B11⟩
        simp [results, Tryz.results49, go_sem]
end Go.Proofs.YtjpoacffnpgjdaaGreat
/- What FireSinks compares, as mathematics. No program is named here. -/
namespace Go.Proofs.YtjpoacffnpgjdaaGreat
theorem snk_zero {f : Fi} {l : List Spt} {need : Int} (h : sunkE f l need = 0) : FireOk f ∧ agreeB f f.ls = true ∧ (0 ≤ need ∧ need ≤ 1500) ∧ l.length ≤ 200 ∧ ∀ n, 0 ≤ n ∧ n ≤ 1500 → sunkE f l n = 0 := by
  obtain ⟨a, b, c⟩ := known_zero h
  obtain ⟨b1, b2⟩ := first2.1 b
  refine ⟨fire_ok a, c, heat_iff.1 (heatE_iff.1 b2), (path_zero b1).1, fun n hn => ?_⟩
  exact known_ok a (first2.2 ⟨b1, heatE_iff.2 (heat_iff.2 hn)⟩) c
theorem snk_least {f : Fi} {l : List Spt} {need : Int} (h : sunkE f l need = 0) : leastR f l need = burnI (lowsI f l) need ∧ mostR f l need = burnI (highsI f l) need ∧ surelyR f l need = rowsI (lowsI f l) need ∧ possiblyR f l need = rowsI (highsI f l) need := by
  unfold leastR mostR surelyR possiblyR
  rw [if_pos h, if_pos h, if_pos h, if_pos h]
  exact ⟨rfl, rfl, rfl, rfl⟩
theorem at_map {l : List Spt} {g : Spt → Int} {i : Nat} {x : Int} (h : (l.map g)[i]? = some x) : ∃ p, l[i]? = some p ∧ x = g p := by
  rw [List.getElem?_map] at h
  cases hp : l[i]? with
  | none => rw [hp] at h; cases h
  | some p => rw [hp] at h; cases h; exact ⟨p, rfl, rfl⟩
/-- The least under the most; a greater need under a lesser one. -/
theorem snk_under {f : Fi} {l : List Spt} {need n : Int} (h : sunkE f l need = 0) (hn : need ≤ n) :
    underP (burnI (lowsI f l) need) (burnI (highsI f l) need) ∧ underP (burnI (lowsI f l) n) (burnI (lowsI f l) need) ∧ underP (burnI (highsI f l) n) (burnI (highsI f l) need) := by
  obtain ⟨hok, hag, _⟩ := snk_zero h
  refine ⟨burn_mono (Int.le_refl _) (by unfold lowsI highsI; simp) ?_, burn_mono hn rfl ?_, burn_mono hn rfl ?_⟩
  · intro i x y hx hy
    obtain ⟨p, hp, rfl⟩ := at_map hx
    obtain ⟨q, hq, rfl⟩ := at_map hy
    rw [hp] at hq; cases hq
    exact lo_hi hok.slope hok.look hag p
  · intro i x y hx hy; rw [hx] at hy; cases hy; exact Int.le_refl _
  · intro i x y hx hy; rw [hx] at hy; cases hy; exact Int.le_refl _
theorem snk_fits {f : Fi} {l : List Spt} {hs : List Int} {need : Int} (hE : fitsE f l hs = 0) (hF : fitsR f l hs = true) :
    l.length = hs.length ∧ (∀ x ∈ hs, 0 ≤ x ∧ x ≤ 1500) ∧ underP (burnI (lowsI f l) need) (burnI hs need) ∧ underP (burnI hs need) (burnI (highsI f l) need) ∧
      ∀ (k : Nat) (x : Int), hs[k]? = some x → (withinB (rowsI (lowsI f l) need) k = true → need ≤ x) ∧ (need ≤ x → withinB (rowsI (highsI f l) need) k = true) := by
  have hz : fitsB f f.ls (l.zip hs) = true := by unfold fitsR at hF; rwa [if_pos hE] at hF
  have h1 := (first2.1 (known_zero hE).2.1).2
  have hlen : l.length = hs.length ∧ hs.all heatB = true := by
    unfold toldE at h1
    by_cases h2 : l.length ≠ hs.length
    · rw [if_pos h2] at h1; cases h1
    · rw [if_neg h2] at h1
      refine ⟨by omega, ?_⟩
      cases h3 : hs.all heatB with
      | true => rfl
      | false => rw [h3] at h1; cases h1
  have hat : ∀ (i : Nat) (x : Int), hs[i]? = some x → ∃ p, l[i]? = some p ∧ endLo f f.ls p ≤ x ∧ x ≤ endHi f f.ls p := by
    intro i x hx
    have hi : i < hs.length := (List.getElem?_eq_some_iff.1 hx).1
    have hp : l[i]? = some (l[i]'(by omega)) := List.getElem?_eq_getElem (by omega)
    exact ⟨_, hp, fits_at hz hp hx⟩
  refine ⟨hlen.1, fun x hx => heat_iff.1 (List.all_eq_true.1 hlen.2 x hx), burn_mono (Int.le_refl _) (by unfold lowsI; simp [hlen.1]) ?_, burn_mono (Int.le_refl _) (by unfold highsI; simp [hlen.1]) ?_, fun k x hx => ?_⟩
  · intro i x y hx hy
    obtain ⟨p, hp, rfl⟩ := at_map hx
    obtain ⟨q, hq, h2, _⟩ := hat i y hy
    rw [hp] at hq; cases hq
    exact h2
  · intro i x y hx hy
    obtain ⟨p, hp, rfl⟩ := at_map hy
    obtain ⟨q, hq, _, h2⟩ := hat i x hx
    rw [hp] at hq; cases hq
    exact h2
  · obtain ⟨p, hp, h2, h3⟩ := hat k x hx
    have e1 : (lowsI f l)[k]? = some (endLo f f.ls p) := by unfold lowsI; rw [List.getElem?_map, hp]; rfl
    have e2 : (highsI f l)[k]? = some (endHi f f.ls p) := by unfold highsI; rw [List.getElem?_map, hp]; rfl
    rw [within_rows e1, within_rows e2]
    simp only [decide_eq_true_eq]
    exact ⟨fun h => by omega, fun h => by omega⟩
theorem rows_short {f : Fi} {l : List Spt} {need : Int} (g : Fi → List Spt → List Int) (hg : (g f l).length = l.length) : (rowsI (g f l) need).length ≤ l.length := by
  have := rows_len (g f l) need (Nat.le_refl (g f l).length)
  unfold rowsI; omega
end Go.Proofs.YtjpoacffnpgjdaaGreat
