/- Texts joined: STieA STieB STieBD STieC STieD STieE STieF STieG STieH STieI. -/
import Derived.Test.YtnedcclmfokdnaaGreatJ8
import Derived.Test.YtnedcclmfokdnaaGreatJ10
import Derived.Test.YtnedcclmfokdnaaGreatJ12
import Derived.RangeFuncBox
namespace Go.Proofs.YtnedcclmfokdnaaGreat
open Go Go.RowKit Go.Shelf
attribute [local go_sem] Oper.semAt_some
theorem Sl.form1 {α : Type} {c : α → List Value} {s : Nat} {w : World} {B : Nat} {v : Value} {l : List α} (h : Sl c s w B v l) : ∃ A cap, v = .slice A l.length cap := by
  obtain ⟨A, cap, e, _⟩ := h
  exact ⟨A, cap, e⟩
def tV (t : Tie) : Value := .agg #[.int .i64 t.frm, .int .i64 t.too, .int .i64 t.most, .int .i64 t.id]
def encT (t : Tie) : Array Value := #[tV t]
abbrev tiesU : List TypeId := [130, 134, 26, 160, 63, 192, 120]
def Takes (P : Program) (n₀ : Nat) (l : Nat) (xs : List Tie) (B : Nat) (J Jx : List Tie → World → Prop) : Prop :=
  ∀ pre x W1, J pre W1 → pre ++ [x] <+: xs → YieldAt Fence.wide 0 P l (encT x) W1 fun e W' =>
        (e = .returned (.bool true) ∧ J (pre ++ [x]) W' ∧ Kp n₀ 0 tiesU W1 W' ∧ KeepsFrom B W1 W') ∨ (e = .returned (.bool false) ∧ Jx (pre ++ [x]) W' ∧ KeepsFrom B W1 W')
theorem prefix_left {α : Type} {a b c : List α} (h : a ++ b <+: c) : a <+: c := (List.prefix_append a b).trans h
set_option maxRecDepth 100000 in
set_option maxHeartbeats 4000000 in
theorem tieBoth_c (n₀ B l : Nat) (xs : List Tie) (J Jx : List Tie → World → Prop) (hY : Takes Tryz.prog n₀ l xs B J Jx) (oJ : OwnFrom B J) (pre : List Tie) (a b lo hi id : Int) (W : World) (hn : n₀ ≤ W.heap.size) (hlo : 0 ≤ lo ∧ lo ≤ 16777216) (hJ : J pre W) (hp : pre ++ bothT a b lo hi id <+: xs) :
    Calls Tryz.prog 172 #[.agg #[.int .i64 a, .int .i64 b], .agg #[.int .i64 lo, .int .i64 hi], .int .i64 id, .func (.yield l) #[] #[]] W fun e W' =>
      (e = .returned (.bool true) ∧ J (pre ++ bothT a b lo hi id) W' ∧ Kp n₀ 0 tiesU W W' ∧ KeepsFrom B W W') ∨ (e = .returned (.bool false) ∧ (∃ q, q <+: xs ∧ Jx q W') ∧ KeepsFrom B W W') := by
  obtain ⟨q0, q1, qs, qb⟩ := two_new' W (.cells #[.int .i64 a, .int .i64 b] 160) (.cells #[.int .i64 lo, .int .i64 hi] 63)
  have h1 : pre ++ [⟨a, b, hi, id⟩] <+: xs := prefix_left (b := [⟨b, a, -lo, id⟩]) (by rw [List.append_assoc]; exact hp)
  have hp2 : (pre ++ [⟨a, b, hi, id⟩]) ++ [⟨b, a, -lo, id⟩] <+: xs := by rw [List.append_assoc]; exact hp
  (refine (callsIn_wide (n := 9)).1 (callsIn_of_wp Tryz.func172 rfl trivial ?_ rfl); simp only [Tryz.ntmps172, List.size_toArray, List.length_cons, List.length_nil, Nat.reduceAdd, Nat.reduceSub, Array.replicate_succ, Array.replicate_zero, List.push_toArray, List.append_toArray, List.nil_append, List.cons_append])
  gi_wp2_with fail
  generalize (W.alloc _).alloc _ = W1 at q0 q1 qs qb ⊢
  have J1 := own_grown oJ hJ qb
  have c0 := Joins.cell_of_block q0 0
  have c1 := Joins.cell_of_block q0 1
  have c2 := Joins.cell_of_block q1 0
  have c3 := Joins.cell_of_block q1 1
  obtain ⟨fn, tmps, assign, body, hyy, hR⟩ := hY pre _ W1 J1 h1
  unfold encT tV at hyy
  gi_wp2_with fail
  refine (round_any hR).mono ?_
  have b1 := (Kp.of_below (n₀ := n₀) (B := 0) (U := tiesU) qb hn)
  have k1 : KeepsFrom B W W1 := keeps_of_below qb
  rintro e W8 (⟨rfl, hJ8, hk8, hf8⟩ | ⟨rfl, hJx8, hf8⟩)
  · have r0 := hk8.t _ _ _ _ (Nat.zero_le _) q0 (by simp)
    have r1 := hk8.t _ _ _ _ (Nat.zero_le _) q1 (by simp)
    have d0 := Joins.cell_of_block r0 0
    have d1 := Joins.cell_of_block r0 1
    have d2 := Joins.cell_of_block r1 0
    have d3 := Joins.cell_of_block r1 1
    clear c0 c1 c2 c3 hyy hR q0 q1
    obtain ⟨fn2, tmps2, assign2, body2, hyy2, hR2⟩ := hY _ _ W8 hJ8 hp2
    unfold encT tV at hyy2
    gi_wp2_with fail
    refine (round_any hR2).mono ?_
    rintro e W9 (⟨rfl, hJ9, hk9, hf9⟩ | ⟨rfl, hJx9, hf9⟩)
    · gi_wp2_with fail
      refine bodyPost_ret (v := .bool true) ?_ rfl (.inl ⟨rfl, ?_, b1.trans (hk8.trans hk9), k1.trans (hf8.trans hf9)⟩)
      · simp [results, Tryz.results172, go_sem]
      · rw [List.append_assoc] at hJ9; exact hJ9
    · gi_wp2_with fail
      refine bodyPost_ret (v := .bool false) ?_ rfl (.inr ⟨rfl, ⟨_, hp2, hJx9⟩, k1.trans (hf8.trans hf9)⟩)
      simp [results, Tryz.results172, go_sem]
  · gi_wp2_with fail
    refine ⟨fun _ h => (by cases h), ?_⟩
    gi_wp2_with fail
    refine bodyPost_ret (v := .bool false) ?_ rfl (.inr ⟨rfl, ⟨_, h1, hJx8⟩, k1.trans hf8⟩)
    simp [results, Tryz.results172, go_sem]
def rowT (l : List Rec) (bs : Int) (j : Nat) : List Tie := (List.range j).flatMap fun i => match l[i]? with | some x => bothT (markB bs i) (markB bs ((i : Int) + 1)) x.lo x.hi x.id | none => []
theorem rowT_next {l : List Rec} {bs : Int} {j : Nat} {x : Rec} (h : l[j]? = some x) : rowT l bs (j + 1) = rowT l bs j ++ bothT (markB bs j) (markB bs ((j : Int) + 1)) x.lo x.hi x.id := by
  unfold rowT; rw [flat_range_snoc]; simp [h]
theorem flat_prefix {α : Type} (f : Nat → List α) {j n : Nat} (h : j ≤ n) : (List.range j).flatMap f <+: (List.range n).flatMap f := by
  obtain ⟨d, rfl⟩ : ∃ d, n = j + d := ⟨n - j, by omega⟩
  rw [List.range_add, List.flatMap_append]
  exact List.prefix_append _ _
theorem rowT_prefix {l : List Rec} {bs : Int} {j n : Nat} (h : j ≤ n) : rowT l bs j <+: rowT l bs n := flat_prefix _ h
def RowOk (l : List Rec) : Prop := l.length ≤ 1000 ∧ ∀ x ∈ l, 0 ≤ x.lo ∧ x.lo ≤ 16777216
end Go.Proofs.YtnedcclmfokdnaaGreat
namespace Go.Proofs.YtnedcclmfokdnaaGreat
open Go Go.RowKit Go.Shelf
attribute [local go_sem] Oper.semAt_some
set_option maxRecDepth 100000 in
set_option maxHeartbeats 4000000 in
theorem rowL_g {w : World} {Br n₀ : Nat} {l : List Rec} {bs : Int} {u : Value} (hn₀ : n₀ ≤ w.heap.size) (hu : Recs w n₀ u l) (hok : RowOk l) (hbs : 0 ≤ bs ∧ bs ≤ 1000) (h0 : w.heap[Br]? = some (.cells #[u, .int .i64 bs] 130)) :
    Gives Tryz.prog n₀ 0 tiesU (.func (.func 171) #[] #[.pointer (some ⟨Br, 0, none⟩)]) encT (rowT l bs l.length) w := by
  refine ⟨_, _, rfl, enters_of Tryz.func171 (by kernel_rfl) rfl, fun lp J Jx W hW oJ oJx hY hJ => ?_⟩
  obtain ⟨A, cap, rfl, _, hlen, _⟩ := id hu
  replace h0 := (hW.block _ (size_of_block h0)).trans h0
  have hu0 : Recs W n₀ (.slice A l.length cap) l := hu.below (hW.mono hn₀)
  replace hn₀ := Nat.le_trans hn₀ hW.size
  clear hW hu
  have HU := Lib.hid hu0
  have HK := Lib.hid hok
  have HY := Lib.hid hY
  have hl1000 := hok.1
  clear hu0 hY hok
  have c0 := Joins.cell_of_block h0 0
  have c1 := Joins.cell_of_block h0 1
  have H0 := Lib.hid h0
  clear h0
  show Calls _ _ #[.func (.yield lp) #[] #[], .pointer (some ⟨Br, 0, none⟩)] W _
  (refine (callsIn_wide (n := 9)).1 (callsIn_of_wp Tryz.func171 rfl trivial ?_ rfl); simp only [Tryz.ntmps171, List.size_toArray, List.length_cons, List.length_nil, Nat.reduceAdd, Nat.reduceSub, Array.replicate_succ, Array.replicate_zero, List.push_toArray, List.append_toArray, List.nil_append, List.cons_append])
  gi_wp2_with fail
  gi_loopw [8] (fun i wr => ∃ j : Nat, i = .int .i64 j ∧ j ≤ l.length ∧ J (rowT l bs j) wr ∧ Hid (Kp n₀ 0 tiesU W wr))
    (fun i _ => (l.length - intOf i).toNat)
  case atStart => exact ⟨0, rfl, by omega, hJ, Lib.hid (Kp.refl _ _ _ _)⟩
  case round =>
    clear c0 c1
    obtain ⟨j, rfl, hj, hJs, hkp⟩ := hrel
    have hbl := hkp.out.t _ _ _ _ (Nat.zero_le _) H0.out (by simp)
    have c0 := Joins.cell_of_block hbl 0
    have c1 := Joins.cell_of_block hbl 1
    by_cases hlt : j < l.length
    · have hx := List.getElem?_eq_getElem hlt
      obtain ⟨x, hx'⟩ : ∃ x, l[j] = x := ⟨_, rfl⟩
      rw [hx'] at hx
      have hm := List.mem_of_getElem? hx
      have hxb := HK.out.2 x hm
      have hv : Recs wr wr.heap.size (.slice A l.length cap) l := (HU.out.below hkp.out.b).more (Nat.le_trans hn₀ hkp.out.b.size)
      have hp : rowT l bs j ++ bothT (markB bs j) (markB bs ((j : Int) + 1)) x.lo x.hi x.id <+: rowT l bs l.length := by rw [← rowT_next hx]; exact rowT_prefix (by omega)
      have HX := Lib.hid hx
      have HP := Lib.hid hp
      have HV := Lib.hid hv
      have HN := Lib.hid (rowT_next (bs := bs) hx)
      clear hx hx' hm hp hv
      gi_wp2_with fail
      refine ⟨trivial, calls_any (r := none) ((atL_c l _ bs j x wr HV.out HX.out).mono ?_)⟩
      rintro e W2 ⟨rfl, hb2⟩
      have hbl2 := (hb2.block _ (size_of_block hbl)).trans hbl
      have J2 := own_grown oJ hJs hb2
      have hk2 := hkp.out.trans (Kp.of_below (n₀ := n₀) (B := 0) (U := tiesU) hb2 (Nat.le_trans hn₀ hkp.out.b.size))
      have a0 := heap_alloc_new W2 (.cells #[.int .i64 x.id, .int .i64 x.hour, .int .i64 x.lo, .int .i64 x.hi] 103)
      have ab := below_alloc W2 (.cells #[.int .i64 x.id, .int .i64 x.hour, .int .i64 x.lo, .int .i64 x.hi] 103)
      have hbl3 := (ab.block _ (size_of_block hbl2)).trans hbl2
      have J3 := own_grown oJ J2 ab
      have hk3 := hk2.trans (Kp.of_below (n₀ := n₀) (B := 0) (U := tiesU) ab (Nat.le_trans hn₀ hk2.b.size))
      clear c0 c1 hbl hJs hkp hb2 hbl2 J2 hk2 HV
      gi_wp2_with fail
      generalize W2.alloc _ = W3 at a0 ab hbl3 J3 hk3 ⊢
      have c0 := Joins.cell_of_block hbl3 0
      have c1 := Joins.cell_of_block hbl3 1
      have x0 := Joins.cell_of_block a0 0
      have x1 := Joins.cell_of_block a0 1
      have x2 := Joins.cell_of_block a0 2
      have x3 := Joins.cell_of_block a0 3
      have z0 := size_of_block hbl3
      have zx := size_of_block a0
      clear ab
      refine wpIn_region_grown_tail (r := none) 8 (by kernel_rfl) (by kernel_rfl) fun hcg => ?_
      simp only [List.take_succ_cons, List.take_zero, List.drop_succ_cons, List.drop_zero]
      repeat (go_big_quiet_step ((go_at_call 154; exact Calls.grown (partL_c _ bs j _ (by omega) (by omega)))))
      refine wpQuiet_nil ?_
      intro _ hw'
      obtain ⟨g, hw''⟩ := hw'
      subst hw''
      have J4 := own_grown oJ J3 g.b
      have hk4 := hk3.trans (Kp.of_below (n₀ := n₀) (B := 0) (U := tiesU) g.b (Nat.le_trans hn₀ hk3.b.size))
      generalize g.val = W4 at J4 hk4 ⊢
      clear c0 c1 x0 x1 x2 x3 hcg hbl3 a0 J3 hk3 z0 zx
      gi_wp2_with fail
      refine ⟨trivial, calls_any (r := none) ((tieBoth_c n₀ W.heap.size lp _ J Jx HY.out oJ _ _ _ x.lo x.hi x.id W4 (Nat.le_trans hn₀ hk4.b.size) hxb J4 HP.out).mono ?_)⟩
      rintro e W5 (⟨rfl, hJ5, hk5, _⟩ | ⟨rfl, ⟨q, hq, hJ5⟩, _⟩)
      · have hk6 := Lib.hid (hk4.trans hk5)
        clear hk4 hk5 J4
        gi_wp2_with fail
        go_roundw
        case rel => exact ⟨j + 1, by push_cast; rfl, by omega, by rw [HN.out]; exact hJ5, hk6⟩
        case measure => simp [intOf]; omega
      · clear hk4 J4
        gi_wp2_with fail
        refine bodyPost_ret (results_none rfl _ _ _) rfl ?_
        exact ⟨⟨_, rfl⟩, .inr ⟨_, hq, hJ5⟩⟩
    · gi_wp2
      go_end0
      refine ⟨⟨_, rfl⟩, .inl ?_⟩
      obtain rfl : j = l.length := by omega
      exact hJs
end Go.Proofs.YtnedcclmfokdnaaGreat
namespace Go.Proofs.YtnedcclmfokdnaaGreat
open Go Go.RowKit Go.Shelf
attribute [local go_sem] Oper.semAt_some
set_option maxRecDepth 100000 in
set_option maxHeartbeats 4000000 in
theorem rowD_g {w : World} {Br n₀ : Nat} {l : List Rec} {bs : Int} {u : Value} (hn₀ : n₀ ≤ w.heap.size) (hu : Recs w n₀ u l) (hok : RowOk l) (hbs : 0 ≤ bs ∧ bs ≤ 1000) (h0 : w.heap[Br]? = some (.cells #[u, .int .i64 bs] 134)) :
    Gives Tryz.prog n₀ 0 tiesU (.func (.func 173) #[] #[.pointer (some ⟨Br, 0, none⟩)]) encT (rowT l bs l.length) w := by
  refine ⟨_, _, rfl, enters_of Tryz.func173 (by kernel_rfl) rfl, fun lp J Jx W hW oJ oJx hY hJ => ?_⟩
  obtain ⟨A, cap, rfl, _, hlen, _⟩ := id hu
  replace h0 := (hW.block _ (size_of_block h0)).trans h0
  have hu0 : Recs W n₀ (.slice A l.length cap) l := hu.below (hW.mono hn₀)
  replace hn₀ := Nat.le_trans hn₀ hW.size
  clear hW hu
  have HU := Lib.hid hu0
  have HK := Lib.hid hok
  have HY := Lib.hid hY
  have hl1000 := hok.1
  clear hu0 hY hok
  have c0 := Joins.cell_of_block h0 0
  have c1 := Joins.cell_of_block h0 1
  have H0 := Lib.hid h0
  clear h0
  show Calls _ _ #[.func (.yield lp) #[] #[], .pointer (some ⟨Br, 0, none⟩)] W _
  (refine (callsIn_wide (n := 9)).1 (callsIn_of_wp Tryz.func173 rfl trivial ?_ rfl); simp only [Tryz.ntmps173, List.size_toArray, List.length_cons, List.length_nil, Nat.reduceAdd, Nat.reduceSub, Array.replicate_succ, Array.replicate_zero, List.push_toArray, List.append_toArray, List.nil_append, List.cons_append])
  gi_wp2_with fail
  gi_loopw [8] (fun i wr => ∃ j : Nat, i = .int .i64 j ∧ j ≤ l.length ∧ J (rowT l bs j) wr ∧ Hid (Kp n₀ 0 tiesU W wr))
    (fun i _ => (l.length - intOf i).toNat)
  case atStart => exact ⟨0, rfl, by omega, hJ, Lib.hid (Kp.refl _ _ _ _)⟩
  case round =>
    clear c0 c1
    obtain ⟨j, rfl, hj, hJs, hkp⟩ := hrel
    have hbl := hkp.out.t _ _ _ _ (Nat.zero_le _) H0.out (by simp)
    have c0 := Joins.cell_of_block hbl 0
    have c1 := Joins.cell_of_block hbl 1
    by_cases hlt : j < l.length
    · have hx := List.getElem?_eq_getElem hlt
      obtain ⟨x, hx'⟩ : ∃ x, l[j] = x := ⟨_, rfl⟩
      rw [hx'] at hx
      have hm := List.mem_of_getElem? hx
      have hxb := HK.out.2 x hm
      have hv : Recs wr wr.heap.size (.slice A l.length cap) l := (HU.out.below hkp.out.b).more (Nat.le_trans hn₀ hkp.out.b.size)
      have hp : rowT l bs j ++ bothT (markB bs j) (markB bs ((j : Int) + 1)) x.lo x.hi x.id <+: rowT l bs l.length := by rw [← rowT_next hx]; exact rowT_prefix (by omega)
      have HX := Lib.hid hx
      have HP := Lib.hid hp
      have HV := Lib.hid hv
      have HN := Lib.hid (rowT_next (bs := bs) hx)
      clear hx hx' hm hp hv
      gi_wp2_with fail
      refine ⟨trivial, calls_any (r := none) ((atD_c l _ bs j x wr HV.out HX.out).mono ?_)⟩
      rintro e W2 ⟨rfl, hb2⟩
      have hbl2 := (hb2.block _ (size_of_block hbl)).trans hbl
      have J2 := own_grown oJ hJs hb2
      have hk2 := hkp.out.trans (Kp.of_below (n₀ := n₀) (B := 0) (U := tiesU) hb2 (Nat.le_trans hn₀ hkp.out.b.size))
      have a0 := heap_alloc_new W2 (.cells #[.int .i64 x.id, .int .i64 x.hour, .int .i64 x.lo, .int .i64 x.hi] 103)
      have ab := below_alloc W2 (.cells #[.int .i64 x.id, .int .i64 x.hour, .int .i64 x.lo, .int .i64 x.hi] 103)
      have hbl3 := (ab.block _ (size_of_block hbl2)).trans hbl2
      have J3 := own_grown oJ J2 ab
      have hk3 := hk2.trans (Kp.of_below (n₀ := n₀) (B := 0) (U := tiesU) ab (Nat.le_trans hn₀ hk2.b.size))
      clear c0 c1 hbl hJs hkp hb2 hbl2 J2 hk2 HV
      gi_wp2_with fail
      generalize W2.alloc _ = W3 at a0 ab hbl3 J3 hk3 ⊢
      have c0 := Joins.cell_of_block hbl3 0
      have c1 := Joins.cell_of_block hbl3 1
      have x0 := Joins.cell_of_block a0 0
      have x1 := Joins.cell_of_block a0 1
      have x2 := Joins.cell_of_block a0 2
      have x3 := Joins.cell_of_block a0 3
      have z0 := size_of_block hbl3
      have zx := size_of_block a0
      clear ab
      refine wpIn_region_grown_tail (r := none) 8 (by kernel_rfl) (by kernel_rfl) fun hcg => ?_
      simp only [List.take_succ_cons, List.take_zero, List.drop_succ_cons, List.drop_zero]
      repeat (go_big_quiet_step ((go_at_call 162; exact Calls.grown (partD_c _ bs j _ (by omega) (by omega)))))
      refine wpQuiet_nil ?_
      intro _ hw'
      obtain ⟨g, hw''⟩ := hw'
      subst hw''
      have J4 := own_grown oJ J3 g.b
      have hk4 := hk3.trans (Kp.of_below (n₀ := n₀) (B := 0) (U := tiesU) g.b (Nat.le_trans hn₀ hk3.b.size))
      generalize g.val = W4 at J4 hk4 ⊢
      clear c0 c1 x0 x1 x2 x3 hcg hbl3 a0 J3 hk3 z0 zx
      gi_wp2_with fail
      refine ⟨trivial, calls_any (r := none) ((tieBoth_c n₀ W.heap.size lp _ J Jx HY.out oJ _ _ _ x.lo x.hi x.id W4 (Nat.le_trans hn₀ hk4.b.size) hxb J4 HP.out).mono ?_)⟩
      rintro e W5 (⟨rfl, hJ5, hk5, _⟩ | ⟨rfl, ⟨q, hq, hJ5⟩, _⟩)
      · have hk6 := Lib.hid (hk4.trans hk5)
        clear hk4 hk5 J4
        gi_wp2_with fail
        go_roundw
        case rel => exact ⟨j + 1, by push_cast; rfl, by omega, by rw [HN.out]; exact hJ5, hk6⟩
        case measure => simp [intOf]; omega
      · clear hk4 J4
        gi_wp2_with fail
        refine bodyPost_ret (results_none rfl _ _ _) rfl ?_
        exact ⟨⟨_, rfl⟩, .inr ⟨_, hq, hJ5⟩⟩
    · gi_wp2
      go_end0
      refine ⟨⟨_, rfl⟩, .inl ?_⟩
      obtain rfl : j = l.length := by omega
      exact hJs
end Go.Proofs.YtnedcclmfokdnaaGreat
namespace Go.Proofs.YtnedcclmfokdnaaGreat
open Go Go.RowKit Go.Shelf
attribute [local go_sem] Oper.semAt_some
def KilnB (w : World) (n : Nat) (v : Value) (k : Kl) : Prop :=
  ∃ vl vd vw, v = .agg #[.int .i64 k.room, .int .i64 k.per, vl, vd, vw] ∧ Recs w n vl k.ls ∧ Recs w n vd k.ds ∧ Wgs w n vw k.ws
theorem KilnB.below {w w' : World} {n : Nat} {v : Value} {k : Kl} (h : KilnB w n v k) (hb : Below n w w') : KilnB w' n v k := by
  obtain ⟨a, b, c, e, h1, h2, h3⟩ := h
  exact ⟨a, b, c, e, h1.below hb, h2.below hb, h3.below hb⟩
theorem KilnB.kiln {w : World} {n : Nat} {v : Value} {k : Kl} (h : KilnB w n v k) (hn : n ≤ w.heap.size) : Kiln w v k := by
  obtain ⟨a, b, c, e, h1, h2, h3⟩ := h
  exact ⟨a, b, c, e, h1.more hn, h2.more hn, h3.more hn⟩
theorem Kiln.toB {w : World} {v : Value} {k : Kl} (h : Kiln w v k) : KilnB w w.heap.size v k := h
def wgT (k : Kl) (j : Nat) : List Tie := (List.range j).flatMap (wgTies k)
theorem wgT_next {k : Kl} {j : Nat} {x : Wg} (h : k.ws[j]? = some x) : wgT k (j + 1) = wgT k j ++ bothT (endsI k x).1 (endsI k x).2 x.lo x.hi x.id := by
  unfold wgT; rw [flat_range_snoc]; unfold wgTies; simp [h]
set_option maxRecDepth 100000 in
set_option maxHeartbeats 4000000 in
theorem weigh_g {w : World} {Bk n₀ : Nat} {k : Kl} {vl vd vw : Value} (hn₀ : n₀ ≤ w.heap.size) (hR : Right k) (hu : KilnB w n₀ (.agg #[.int .i64 k.room, .int .i64 k.per, vl, vd, vw]) k) (h0 : w.heap[Bk]? = some (.cells #[.int .i64 k.room, .int .i64 k.per, vl, vd, vw] 26)) :
    Gives Tryz.prog n₀ 0 tiesU (.func (.func 174) #[] #[.pointer (some ⟨Bk, 0, none⟩)]) encT (wgT k k.ws.length) w := by
  refine ⟨_, _, rfl, enters_of Tryz.func174 (by kernel_rfl) rfl, fun lp J Jx W hW oJ oJx hY hJ => ?_⟩
  replace h0 := (hW.block _ (size_of_block h0)).trans h0
  have hu0 := hu.below (hW.mono hn₀)
  replace hn₀ := Nat.le_trans hn₀ hW.size
  clear hW hu
  obtain ⟨al, ad, aw, e, hl, hd, hw⟩ := id hu0
  obtain ⟨rfl, rfl, rfl⟩ : vl = al ∧ vd = ad ∧ vw = aw := by simpa using e
  obtain ⟨A1, cap1, rfl⟩ := Sl.form1 hl
  obtain ⟨A2, cap2, rfl⟩ := Sl.form1 hd
  obtain ⟨A, cap, rfl, _, hlen, hat⟩ := Wgs.open_ hw
  have HU := Lib.hid hu0
  have HAT := Lib.hid hat
  have HR := Lib.hid hR
  have HY := Lib.hid hY
  have hl20 := hR.ws
  clear hu0 hY hR hl hd hw hat e
  have c0 := Joins.cell_of_block h0 0
  have c1 := Joins.cell_of_block h0 1
  have c2 := Joins.cell_of_block h0 2
  have c3 := Joins.cell_of_block h0 3
  have c4 := Joins.cell_of_block h0 4
  have H0 := Lib.hid h0
  clear h0
  show Calls _ _ #[.func (.yield lp) #[] #[], .pointer (some ⟨Bk, 0, none⟩)] W _
  (refine (callsIn_wide (n := 9)).1 (callsIn_of_wp Tryz.func174 rfl trivial ?_ rfl); simp only [Tryz.ntmps174, List.size_toArray, List.length_cons, List.length_nil, Nat.reduceAdd, Nat.reduceSub, Array.replicate_succ, Array.replicate_zero, List.push_toArray, List.append_toArray, List.nil_append, List.cons_append])
  gi_wp2_with fail
  gi_loopw [10] (fun i wr => ∃ j : Nat, i = .int .i64 j ∧ j ≤ k.ws.length ∧ J (wgT k j) wr ∧ Hid (Kp n₀ 0 tiesU W wr))
    (fun i _ => (k.ws.length - intOf i).toNat)
  case atStart => exact ⟨0, rfl, by omega, hJ, Lib.hid (Kp.refl _ _ _ _)⟩
  case round =>
    clear c0 c1 c2 c3 c4
    obtain ⟨j, rfl, hj, hJs, hkp⟩ := hrel
    have hbl := hkp.out.t _ _ _ _ (Nat.zero_le _) H0.out (by simp)
    have c0 := Joins.cell_of_block hbl 0
    have c1 := Joins.cell_of_block hbl 1
    have c2 := Joins.cell_of_block hbl 2
    have c3 := Joins.cell_of_block hbl 3
    have c4 := Joins.cell_of_block hbl 4
    have zB := size_of_block hbl
    by_cases hlt : j < k.ws.length
    · obtain ⟨b, off, x, rfl, hb, hx, y0, y1, y2, y3, y4, y5⟩ := HAT.out j hlt
      have hwx := HR.out.weigh hx
      have hxb := HR.out.small.wb j x hx
      have hxs : 0 ≤ x.lo ∧ x.lo ≤ 16777216 := by omega
      have hwe := HR.out.weighed hwx
      have hw1 := weighed_c k (.agg #[.int .i64 k.room, .int .i64 k.per, .slice A1 k.ls.length cap1, .slice A2 k.ds.length cap2, .slice (some ⟨b, off, none⟩) k.ws.length cap]) x
      rw [hwe] at hw1
      have HW1 := Lib.hid hw1
      have hp : wgT k j ++ bothT (endsI k x).1 (endsI k x).2 x.lo x.hi x.id <+: wgT k k.ws.length := by rw [← wgT_next hx]; exact flat_prefix _ (by omega)
      have HP := Lib.hid hp
      have HN := Lib.hid (wgT_next hx)
      have kc := fun i (h : b < n₀) => hkp.out.b.cell (p := ⟨b, i, none⟩) h
      have z0 := (kc _ hb).trans y0
      have z1 := (kc _ hb).trans y1
      have z2 := (kc _ hb).trans y2
      have z3 := (kc _ hb).trans y3
      have z4 := (kc _ hb).trans y4
      have z5 := (kc _ hb).trans y5
      clear y0 y1 y2 y3 y4 y5 kc hwe hw1 hp hwx hxb hx
      generalize (endsI k x).1 = pa at HW1 HP HN
      generalize (endsI k x).2 = pb at HW1 HP HN
      generalize (weighedI k x).2 = pr at HW1
      have a0 := heap_alloc_new wr (.cells #[.int .i64 x.id, .int .i64 x.kind, .int .i64 x.frm, .int .i64 x.too, .int .i64 x.lo, .int .i64 x.hi] 112)
      have ab := below_alloc wr (.cells #[.int .i64 x.id, .int .i64 x.kind, .int .i64 x.frm, .int .i64 x.too, .int .i64 x.lo, .int .i64 x.hi] 112)
      have hk2 := hkp.out.trans (Kp.of_below (n₀ := n₀) (B := 0) (U := tiesU) ab (Nat.le_trans hn₀ hkp.out.b.size))
      have J2 := own_grown oJ hJs ab
      have HKL := Lib.hid ((HU.out.below hk2.b).kiln (Nat.le_trans hn₀ hk2.b.size))
      have HNL := Lib.hid HR.out.noL
      have HND := Lib.hid HR.out.noD
      have h20 := HR.out.ls
      clear hkp hJs
      gi_wp2_with fail
      refine ⟨trivial, calls_any (r := none) ((HW1.out _ HKL.out h20 HNL.out HND.out).mono ?_)⟩
      rintro e W3 ⟨rfl, hb3⟩
      have hk3 := hk2.trans (Kp.of_below (n₀ := n₀) (B := 0) (U := tiesU) hb3 (Nat.le_trans hn₀ hk2.b.size))
      have J3 := own_grown oJ J2 hb3
      have a3 := (hb3.block _ (size_of_block a0)).trans a0
      have p0 := heap_alloc_new W3 (.cells #[.int .i64 pa, .int .i64 pb] 160)
      have pb0 := below_alloc W3 (.cells #[.int .i64 pa, .int .i64 pb] 160)
      have hk4 := hk3.trans (Kp.of_below (n₀ := n₀) (B := 0) (U := tiesU) pb0 (Nat.le_trans hn₀ hk3.b.size))
      have J4 := own_grown oJ J3 pb0
      have a4 := (pb0.block _ (size_of_block a3)).trans a3
      have za := size_of_block a3
      have x0 := Joins.cell_of_block a3 0
      have x4 := Joins.cell_of_block a3 4
      have x5 := Joins.cell_of_block a3 5
      clear c0 c1 c2 c3 c4 z0 z1 z2 z3 z4 z5 hbl zB hk2 hk3 J2 J3 a3 hb3 a0 ab
      gi_wp2_with fail
      refine ⟨trivial, calls_any (r := none) ((tieBoth_c n₀ W.heap.size lp _ J Jx HY.out oJ _ _ _ x.lo x.hi x.id _ (Nat.le_trans hn₀ hk4.b.size) hxs J4 HP.out).mono ?_)⟩
      rintro e W5 (⟨rfl, hJ5, hk5, _⟩ | ⟨rfl, ⟨q, hq, hJ5⟩, _⟩)
      · have hk6 := Lib.hid (hk4.trans hk5)
        clear hk4 hk5 J4 x0 x4 x5 p0 pb0 a4 za
        gi_wp2_with fail
        go_roundw
        case rel => exact ⟨j + 1, by push_cast; rfl, by omega, by rw [HN.out]; exact hJ5, hk6⟩
        case measure => simp [intOf]; omega
      · clear hk4 J4 x0 x4 x5 p0 pb0 a4 za
        gi_wp2_with fail
        refine bodyPost_ret (results_none rfl _ _ _) rfl ?_
        exact ⟨⟨_, rfl⟩, .inr ⟨_, hq, hJ5⟩⟩
    · gi_wp2
      go_end0
      refine ⟨⟨_, rfl⟩, .inl ?_⟩
      obtain rfl : j = k.ws.length := by omega
      exact hJs
end Go.Proofs.YtnedcclmfokdnaaGreat
namespace Go.Proofs.YtnedcclmfokdnaaGreat
open Go Go.RowKit Go.Shelf
attribute [local go_sem] Oper.semAt_some
def stockT (k : Kl) (j : Nat) : List Tie := (List.range j).flatMap (stockTies k)
def roomT (k : Kl) (j : Nat) : List Tie := (List.range j).flatMap (roomTies k)
theorem stockT_next {k : Kl} {j : Nat} {x : Rec} (h : k.ds[j]? = some x) : stockT k (j + 1) = stockT k j ++ [⟨chargedI k x.hour, markI k (j + 1), 0, 0⟩] := by
  unfold stockT; rw [flat_range_snoc]; unfold stockTies; simp [h]
theorem roomT_next {k : Kl} {j : Nat} {x : Rec} (h : k.ls[j]? = some x) : roomT k (j + 1) = roomT k j ++ [⟨drawnI k (x.hour - 1), j + 1, k.room, 0⟩] := by
  unfold roomT; rw [flat_range_snoc]; unfold roomTies; simp [h]
set_option maxRecDepth 100000 in
set_option maxHeartbeats 4000000 in
theorem stock_g {w : World} {Bk n₀ : Nat} {k : Kl} {vl vd vw : Value} (hn₀ : n₀ ≤ w.heap.size) (hR : Right k) (hu : KilnB w n₀ (.agg #[.int .i64 k.room, .int .i64 k.per, vl, vd, vw]) k) (h0 : w.heap[Bk]? = some (.cells #[.int .i64 k.room, .int .i64 k.per, vl, vd, vw] 26)) :
    Gives Tryz.prog n₀ 0 tiesU (.func (.func 175) #[] #[.pointer (some ⟨Bk, 0, none⟩)]) encT (stockT k k.ds.length) w := by
  refine ⟨_, _, rfl, enters_of Tryz.func175 (by kernel_rfl) rfl, fun lp J Jx W hW oJ oJx hY hJ => ?_⟩
  replace h0 := (hW.block _ (size_of_block h0)).trans h0
  have hu0 := hu.below (hW.mono hn₀)
  replace hn₀ := Nat.le_trans hn₀ hW.size
  clear hW hu
  obtain ⟨al, ad, aw, e, hl, hd, hw⟩ := id hu0
  obtain ⟨rfl, rfl, rfl⟩ : vl = al ∧ vd = ad ∧ vw = aw := by simpa using e
  obtain ⟨A1, cap1, rfl⟩ := Sl.form1 hl
  obtain ⟨A2, cap2, rfl, _, hlen, hat⟩ := Recs.open_ (id hd)
  obtain ⟨A3, cap3, rfl⟩ := Sl.form1 hw
  have HL := Lib.hid hl
  have HD := Lib.hid hd
  have HAT := Lib.hid hat
  have HR := Lib.hid hR
  have HY := Lib.hid hY
  have hl20 := hR.ds
  have hb20 := hR.ls
  clear hu0 hY hR hl hd hw hat e
  have c0 := Joins.cell_of_block h0 0
  have c1 := Joins.cell_of_block h0 1
  have c2 := Joins.cell_of_block h0 2
  have c3 := Joins.cell_of_block h0 3
  have c4 := Joins.cell_of_block h0 4
  have H0 := Lib.hid h0
  clear h0
  show Calls _ _ #[.func (.yield lp) #[] #[], .pointer (some ⟨Bk, 0, none⟩)] W _
  (refine (callsIn_wide (n := 9)).1 (callsIn_of_wp Tryz.func175 rfl trivial ?_ rfl); simp only [Tryz.ntmps175, List.size_toArray, List.length_cons, List.length_nil, Nat.reduceAdd, Nat.reduceSub, Array.replicate_succ, Array.replicate_zero, List.push_toArray, List.append_toArray, List.nil_append, List.cons_append])
  gi_wp2_with fail
  gi_loopw [8] (fun i wr => ∃ j : Nat, i = .int .i64 j ∧ j ≤ k.ds.length ∧ J (stockT k j) wr ∧ Hid (Kp n₀ 0 tiesU W wr))
    (fun i _ => (k.ds.length - intOf i).toNat)
  case atStart => exact ⟨0, rfl, by omega, hJ, Lib.hid (Kp.refl _ _ _ _)⟩
  case round =>
    clear c0 c1 c2 c3 c4
    obtain ⟨j, rfl, hj, hJs, hkp⟩ := hrel
    have hbl := hkp.out.t _ _ _ _ (Nat.zero_le _) H0.out (by simp)
    by_cases hlt : j < k.ds.length
    · obtain ⟨b, off, x, rfl, hb, hx, y0, y1, y2, y3⟩ := HAT.out j hlt
      have hp : stockT k j ++ [⟨chargedI k x.hour, markI k (j + 1), 0, 0⟩] <+: stockT k k.ds.length := by rw [← stockT_next hx]; exact flat_prefix _ (by omega)
      have HP := Lib.hid hp
      have HN := Lib.hid (stockT_next hx)
      have kc := fun i (h : b < n₀) => hkp.out.b.cell (p := ⟨b, i, none⟩) h
      have z0 := (kc _ hb).trans y0
      have z1 := (kc _ hb).trans y1
      have z2 := (kc _ hb).trans y2
      have z3 := (kc _ hb).trans y3
      have e1 := HR.out.byL x.hour
      have e2 := markB_mark k ((j : Int) + 1)
      have a0 := heap_alloc_new wr (.cells #[.int .i64 x.id, .int .i64 x.hour, .int .i64 x.lo, .int .i64 x.hi] 104)
      have ab := below_alloc wr (.cells #[.int .i64 x.id, .int .i64 x.hour, .int .i64 x.lo, .int .i64 x.hi] 104)
      have hk2 := hkp.out.trans (Kp.of_below (n₀ := n₀) (B := 0) (U := tiesU) ab (Nat.le_trans hn₀ hkp.out.b.size))
      have J2 := own_grown oJ hJs ab
      have hbl2 := (ab.block _ (size_of_block hbl)).trans hbl
      have E1 := Lib.hid e1
      have E2 := Lib.hid e2
      clear hkp hJs y0 y1 y2 y3 kc hp hx e1 e2 hbl ab
      gi_wp2_with fail
      generalize wr.alloc _ = W3 at a0 hk2 J2 hbl2 ⊢
      have c0 := Joins.cell_of_block hbl2 0
      have c1 := Joins.cell_of_block hbl2 1
      have c2 := Joins.cell_of_block hbl2 2
      have c3 := Joins.cell_of_block hbl2 3
      have c4 := Joins.cell_of_block hbl2 4
      have x1 := Joins.cell_of_block a0 1
      have zB := size_of_block hbl2
      have zx := size_of_block a0
      have HL3 := Lib.hid ((HL.out.below hk2.b).more (Nat.le_trans hn₀ hk2.b.size))
      clear z0 z1 z2 z3
      refine wpIn_region_grown_tail (r := none) 12 (by kernel_rfl) (by kernel_rfl) fun hcg => ?_
      simp only [List.take_succ_cons, List.take_zero, List.drop_succ_cons, List.drop_zero]
      repeat (go_big_quiet_step (first | (go_at_call 77; exact Calls.grown (loadsV _ _ _ _ _ _ _ _)) | (go_at_call 79; exact Calls.grown (drawsV _ _ _ _ _ _ _ _ _ _)) | (go_at_call 111; exact Calls.grown (byL_c k.ls _ _ _ _ (HL3.out.later (Gr.b _)) (by omega))) | (go_at_call 156; exact Calls.grown (markD_c _ _ _ _ (by omega) (by omega)))))
      refine wpQuiet_nil ?_
      intro _ hw'
      obtain ⟨g, hw''⟩ := hw'
      subst hw''
      have J4 := own_grown oJ J2 g.b
      have hk4 := hk2.trans (Kp.of_below (n₀ := n₀) (B := 0) (U := tiesU) g.b (Nat.le_trans hn₀ hk2.b.size))
      generalize g.val = W4 at J4 hk4 ⊢
      clear c0 c1 c2 c3 c4 x1 hcg hbl2 a0 J2 hk2 zB zx
      rw [E1.out, E2.out]
      obtain ⟨fn, tmps, assign, body, hyy, hR⟩ := HY.out _ _ W4 J4 HP.out
      unfold encT tV at hyy
      dsimp only at hyy
      gi_wp2_with fail
      refine (round_any hR).mono ?_
      rintro e W5 (⟨rfl, hJ5, hk5, _⟩ | ⟨rfl, hJ5, _⟩)
      · have hk6 := Lib.hid (hk4.trans hk5)
        clear hk4 hk5 J4 hyy
        gi_wp2_with fail
        go_roundw
        case rel => exact ⟨j + 1, by push_cast; rfl, by omega, by rw [HN.out]; exact hJ5, hk6⟩
        case measure => simp [intOf]; omega
      · clear hk4 J4 hyy
        gi_wp2_with fail
        refine bodyPost_ret (results_none rfl _ _ _) rfl ?_
        exact ⟨⟨_, rfl⟩, .inr ⟨_, HP.out, hJ5⟩⟩
    · have c0 := Joins.cell_of_block hbl 0
      gi_wp2
      go_end0
      refine ⟨⟨_, rfl⟩, .inl ?_⟩
      obtain rfl : j = k.ds.length := by omega
      exact hJs
end Go.Proofs.YtnedcclmfokdnaaGreat
namespace Go.Proofs.YtnedcclmfokdnaaGreat
open Go Go.RowKit Go.Shelf
attribute [local go_sem] Oper.semAt_some
set_option maxRecDepth 100000 in
set_option maxHeartbeats 4000000 in
theorem room_g {w : World} {Bk n₀ : Nat} {k : Kl} {vl vd vw : Value} (hn₀ : n₀ ≤ w.heap.size) (hR : Right k) (hu : KilnB w n₀ (.agg #[.int .i64 k.room, .int .i64 k.per, vl, vd, vw]) k) (h0 : w.heap[Bk]? = some (.cells #[.int .i64 k.room, .int .i64 k.per, vl, vd, vw] 26)) :
    Gives Tryz.prog n₀ 0 tiesU (.func (.func 176) #[] #[.pointer (some ⟨Bk, 0, none⟩)]) encT (roomT k k.ls.length) w := by
  refine ⟨_, _, rfl, enters_of Tryz.func176 (by kernel_rfl) rfl, fun lp J Jx W hW oJ oJx hY hJ => ?_⟩
  replace h0 := (hW.block _ (size_of_block h0)).trans h0
  have hu0 := hu.below (hW.mono hn₀)
  replace hn₀ := Nat.le_trans hn₀ hW.size
  clear hW hu
  obtain ⟨al, ad, aw, e, hl, hd, hw⟩ := id hu0
  obtain ⟨rfl, rfl, rfl⟩ : vl = al ∧ vd = ad ∧ vw = aw := by simpa using e
  obtain ⟨A1, cap1, rfl, _, hlen, hat⟩ := Recs.open_ (id hl)
  obtain ⟨A2, cap2, rfl⟩ := Sl.form1 hd
  obtain ⟨A3, cap3, rfl⟩ := Sl.form1 hw
  have HL := Lib.hid hl
  have HD := Lib.hid hd
  have HAT := Lib.hid hat
  have HR := Lib.hid hR
  have HY := Lib.hid hY
  have hl20 := hR.ls
  have hb20 := hR.ds
  clear hu0 hY hR hl hd hw hat e
  have c0 := Joins.cell_of_block h0 0
  have c1 := Joins.cell_of_block h0 1
  have c2 := Joins.cell_of_block h0 2
  have c3 := Joins.cell_of_block h0 3
  have c4 := Joins.cell_of_block h0 4
  have H0 := Lib.hid h0
  clear h0
  show Calls _ _ #[.func (.yield lp) #[] #[], .pointer (some ⟨Bk, 0, none⟩)] W _
  (refine (callsIn_wide (n := 9)).1 (callsIn_of_wp Tryz.func176 rfl trivial ?_ rfl); simp only [Tryz.ntmps176, List.size_toArray, List.length_cons, List.length_nil, Nat.reduceAdd, Nat.reduceSub, Array.replicate_succ, Array.replicate_zero, List.push_toArray, List.append_toArray, List.nil_append, List.cons_append])
  gi_wp2_with fail
  gi_loopw [8] (fun i wr => ∃ j : Nat, i = .int .i64 j ∧ j ≤ k.ls.length ∧ J (roomT k j) wr ∧ Hid (Kp n₀ 0 tiesU W wr))
    (fun i _ => (k.ls.length - intOf i).toNat)
  case atStart => exact ⟨0, rfl, by omega, hJ, Lib.hid (Kp.refl _ _ _ _)⟩
  case round =>
    clear c0 c1 c2 c3 c4
    obtain ⟨j, rfl, hj, hJs, hkp⟩ := hrel
    have hbl := hkp.out.t _ _ _ _ (Nat.zero_le _) H0.out (by simp)
    by_cases hlt : j < k.ls.length
    · obtain ⟨b, off, x, rfl, hb, hx, y0, y1, y2, y3⟩ := HAT.out j hlt
      have hp : roomT k j ++ [⟨drawnI k (x.hour - 1), j + 1, k.room, 0⟩] <+: roomT k k.ls.length := by rw [← roomT_next hx]; exact flat_prefix _ (by omega)
      have HP := Lib.hid hp
      have HN := Lib.hid (roomT_next hx)
      have kc := fun i (h : b < n₀) => hkp.out.b.cell (p := ⟨b, i, none⟩) h
      have z0 := (kc _ hb).trans y0
      have z1 := (kc _ hb).trans y1
      have z2 := (kc _ hb).trans y2
      have z3 := (kc _ hb).trans y3
      have e1 := HR.out.byD (x.hour - 1)
      have e2 := markB_zero ((j : Int) + 1)
      obtain ⟨_, _, _, hh0, hh1⟩ := HR.out.small.lb j x hx
      have a0 := heap_alloc_new wr (.cells #[.int .i64 x.id, .int .i64 x.hour, .int .i64 x.lo, .int .i64 x.hi] 103)
      have ab := below_alloc wr (.cells #[.int .i64 x.id, .int .i64 x.hour, .int .i64 x.lo, .int .i64 x.hi] 103)
      have hk2 := hkp.out.trans (Kp.of_below (n₀ := n₀) (B := 0) (U := tiesU) ab (Nat.le_trans hn₀ hkp.out.b.size))
      have J2 := own_grown oJ hJs ab
      have hbl2 := (ab.block _ (size_of_block hbl)).trans hbl
      have E1 := Lib.hid e1
      have E2 := Lib.hid e2
      clear hkp hJs y0 y1 y2 y3 kc hp hx e1 e2 hbl ab
      gi_wp2_with fail
      generalize wr.alloc _ = W3 at a0 hk2 J2 hbl2 ⊢
      have c0 := Joins.cell_of_block hbl2 0
      have c1 := Joins.cell_of_block hbl2 1
      have c2 := Joins.cell_of_block hbl2 2
      have c3 := Joins.cell_of_block hbl2 3
      have c4 := Joins.cell_of_block hbl2 4
      have x1 := Joins.cell_of_block a0 1
      have zB := size_of_block hbl2
      have zx := size_of_block a0
      have HL3 := Lib.hid ((HD.out.below hk2.b).more (Nat.le_trans hn₀ hk2.b.size))
      clear z0 z1 z2 z3
      refine wpIn_region_grown_tail (r := none) 15 (by kernel_rfl) (by kernel_rfl) fun hcg => ?_
      simp only [List.take_succ_cons, List.take_zero, List.drop_succ_cons, List.drop_zero]
      repeat (go_big_quiet_step (first | (go_at_call 77; exact Calls.grown (loadsV _ _ _ _ _ _ _ _)) | (go_at_call 79; exact Calls.grown (drawsV _ _ _ _ _ _ _ _ _ _)) | (go_at_call 112; exact Calls.grown (byD_c k.ds _ _ _ _ (HL3.out.later (Gr.b _)) (by omega))) | (go_at_call 155; exact Calls.grown (markL_c _ _ _ _ (by omega) (by omega)))))
      refine wpQuiet_nil ?_
      intro _ hw'
      obtain ⟨g, hw''⟩ := hw'
      subst hw''
      have J4 := own_grown oJ J2 g.b
      have hk4 := hk2.trans (Kp.of_below (n₀ := n₀) (B := 0) (U := tiesU) g.b (Nat.le_trans hn₀ hk2.b.size))
      generalize g.val = W4 at J4 hk4 ⊢
      clear c0 c1 c2 c3 c4 x1 hcg hbl2 a0 J2 hk2 zB zx
      rw [E1.out, E2.out]
      obtain ⟨fn, tmps, assign, body, hyy, hR⟩ := HY.out _ _ W4 J4 HP.out
      unfold encT tV at hyy
      dsimp only at hyy
      gi_wp2_with fail
      refine (round_any hR).mono ?_
      rintro e W5 (⟨rfl, hJ5, hk5, _⟩ | ⟨rfl, hJ5, _⟩)
      · have hk6 := Lib.hid (hk4.trans hk5)
        clear hk4 hk5 J4 hyy
        gi_wp2_with fail
        go_roundw
        case rel => exact ⟨j + 1, by push_cast; rfl, by omega, by rw [HN.out]; exact hJ5, hk6⟩
        case measure => simp [intOf]; omega
      · clear hk4 J4 hyy
        gi_wp2_with fail
        refine bodyPost_ret (results_none rfl _ _ _) rfl ?_
        exact ⟨⟨_, rfl⟩, .inr ⟨_, HP.out, hJ5⟩⟩
    · have c0 := Joins.cell_of_block hbl 0
      gi_wp2
      go_end0
      refine ⟨⟨_, rfl⟩, .inl ?_⟩
      obtain rfl : j = k.ls.length := by omega
      exact hJs
end Go.Proofs.YtnedcclmfokdnaaGreat
namespace Go.Proofs.YtnedcclmfokdnaaGreat
open Go Go.RowKit Go.Shelf
attribute [local go_sem] Oper.semAt_some
theorem mkL_c (A : Option Addr) (n c : Nat) (bs : Int) (w : World) :
    Calls Tryz.prog 132 #[.agg #[.slice A n c, .int .i64 bs]] w fun e w' => e = .returned (.func (.func 171) #[] #[.pointer (some ⟨w.heap.size, 0, none⟩)]) ∧ w' = w.alloc (.cells #[.slice A n c, .int .i64 bs] 130) := by
  go_enter Tryz.func132, Tryz.ntmps132
  go_wp2_with fail
  go_ret
  exact ⟨rfl, rfl⟩
theorem mkD_c (A : Option Addr) (n c : Nat) (bs : Int) (w : World) :
    Calls Tryz.prog 133 #[.agg #[.slice A n c, .int .i64 bs]] w fun e w' => e = .returned (.func (.func 173) #[] #[.pointer (some ⟨w.heap.size, 0, none⟩)]) ∧ w' = w.alloc (.cells #[.slice A n c, .int .i64 bs] 134) := by
  go_enter Tryz.func133, Tryz.ntmps133
  go_wp2_with fail
  go_ret
  exact ⟨rfl, rfl⟩
theorem mkW_c (a b : Int) (A1 A2 A3 : Option Addr) (n1 c1 n2 c2 n3 c3 : Nat) (w : World) :
    Calls Tryz.prog 134 #[.agg #[.int .i64 a, .int .i64 b, .slice A1 n1 c1, .slice A2 n2 c2, .slice A3 n3 c3]] w fun e w' => e = .returned (.func (.func 174) #[] #[.pointer (some ⟨w.heap.size, 0, none⟩)]) ∧ w' = w.alloc (.cells #[.int .i64 a, .int .i64 b, .slice A1 n1 c1, .slice A2 n2 c2, .slice A3 n3 c3] 26) := by
  go_enter Tryz.func134, Tryz.ntmps134
  go_wp2_with fail
  go_ret
  exact ⟨rfl, rfl⟩
theorem mkS_c (a b : Int) (A1 A2 A3 : Option Addr) (n1 c1 n2 c2 n3 c3 : Nat) (w : World) :
    Calls Tryz.prog 135 #[.agg #[.int .i64 a, .int .i64 b, .slice A1 n1 c1, .slice A2 n2 c2, .slice A3 n3 c3]] w fun e w' => e = .returned (.func (.func 175) #[] #[.pointer (some ⟨w.heap.size, 0, none⟩)]) ∧ w' = w.alloc (.cells #[.int .i64 a, .int .i64 b, .slice A1 n1 c1, .slice A2 n2 c2, .slice A3 n3 c3] 26) := by
  go_enter Tryz.func135, Tryz.ntmps135
  go_wp2_with fail
  go_ret
  exact ⟨rfl, rfl⟩
theorem mkR_c (a b : Int) (A1 A2 A3 : Option Addr) (n1 c1 n2 c2 n3 c3 : Nat) (w : World) :
    Calls Tryz.prog 136 #[.agg #[.int .i64 a, .int .i64 b, .slice A1 n1 c1, .slice A2 n2 c2, .slice A3 n3 c3]] w fun e w' => e = .returned (.func (.func 176) #[] #[.pointer (some ⟨w.heap.size, 0, none⟩)]) ∧ w' = w.alloc (.cells #[.int .i64 a, .int .i64 b, .slice A1 n1 c1, .slice A2 n2 c2, .slice A3 n3 c3] 26) := by
  go_enter Tryz.func136, Tryz.ntmps136
  go_wp2_with fail
  go_ret
  exact ⟨rfl, rfl⟩
def marksD (Ds : List Nat) : List Deferred := Ds.map fun D => { target := .collected D, args := #[] }
theorem leaves_marks {F : Fence} {n B : Nat} {P : Program} {fn : Func} {tmps : Array Value} {R : Ending → World → Prop} {u : FrameMode} (hu : u ≠ .run) {I : Unit → World → Prop} (hI : OwnFrom B I)
    (hend : ∀ w, I () w → LeavesIn F n P fn tmps R [] u w) : ∀ (Ds : List Nat) (w : World), I () w → Ds.Nodup → (∀ D ∈ Ds, B ≤ D ∧ w.heap[D]? = some (.deferred (some []))) → LeavesInM F n P fn tmps R (marksD Ds) u w
  | [], w, h, _, _ => hend w h
  | D :: Ds, w, h, hd, hD => by
    obtain ⟨hB, hK⟩ := hD D (by simp)
    refine ⟨hu, .inl ⟨D, _, rfl, run_takeDeferred hK, ?_⟩⟩
    rw [List.nodup_cons] at hd
    refine leaves_marks hu hI hend Ds _ (hI.putObj _ h hB hK rfl) hd.2 fun E hE => ?_
    have hne : E ≠ D := fun e => hd.1 (e ▸ hE)
    exact ⟨(hD E (by simp [hE])).1, (World.putObj_heap_other hne).trans (hD E (by simp [hE])).2⟩
def pieceT (k : Kl) (j : Nat) : List Tie := match j with
  | 0 => rowT k.ls 0 k.ls.length
  | 1 => rowT k.ds k.ls.length k.ds.length
  | 2 => wgT k k.ws.length
  | 3 => stockT k k.ds.length
  | 4 => roomT k k.ls.length
  | _ => []
def piecesT (k : Kl) (j : Nat) : List Tie := (List.range j).flatMap (pieceT k)
theorem piecesT_next (k : Kl) (j : Nat) : piecesT k (j + 1) = piecesT k j ++ pieceT k j := by unfold piecesT; rw [flat_range_snoc]
theorem rowT_loads (k : Kl) (j : Nat) : rowT k.ls 0 j = (List.range j).flatMap (loadTies k) := by
  unfold rowT loadTies
  congr 1
  funext i
  cases k.ls[i]? with
  | none => rfl
  | some x => simp only [markB_zero]
theorem rowT_draws (k : Kl) (j : Nat) : rowT k.ds k.ls.length j = (List.range j).flatMap (drawTies k) := rfl
theorem pieces_all (k : Kl) : piecesT k 5 = tiesL k := by
  have e : piecesT k 5 = pieceT k 0 ++ pieceT k 1 ++ pieceT k 2 ++ pieceT k 3 ++ pieceT k 4 := by
    simp only [piecesT_next, show piecesT k 0 = [] from rfl, List.nil_append]
  rw [e]
  unfold tiesL
  show rowT k.ls 0 k.ls.length ++ rowT k.ds k.ls.length k.ds.length ++ wgT k k.ws.length ++ stockT k k.ds.length ++ roomT k k.ls.length = _
  rw [rowT_loads, rowT_draws]
  rfl
end Go.Proofs.YtnedcclmfokdnaaGreat
namespace Go.Proofs.YtnedcclmfokdnaaGreat
open Go Go.RowKit Go.Shelf
attribute [local go_sem] Oper.semAt_some Rel RelAt RelUpon
theorem Right.rowL {k : Kl} (h : Right k) : RowOk k.ls := ⟨by have := h.ls; omega, fun x hx => by
  obtain ⟨i, hi⟩ := List.getElem?_of_mem hx
  have := h.small.lb i x hi
  omega⟩
theorem Right.rowD {k : Kl} (h : Right k) : RowOk k.ds := ⟨by have := h.ds; omega, fun x hx => by
  obtain ⟨i, hi⟩ := List.getElem?_of_mem hx
  have := h.small.db i x hi
  omega⟩
theorem own_all {β : Type} {B : Nat} {Ds : List Nat} (o : Obj) (hD : ∀ D ∈ Ds, D < B) : OwnFrom B (fun (_ : β) W => ∀ D ∈ Ds, W.heap[D]? = some o) := fun s X Y row hs hg hrow D hd => ownFrom_block (β := β) o (hD D hd) s X Y row (hs D hd) hg hrow
set_option maxRecDepth 100000 in
set_option maxHeartbeats 8000000 in
theorem ties_g {w : World} {Bk n₀ : Nat} {k : Kl} {vl vd vw : Value} (hn₀ : n₀ ≤ w.heap.size) (hR : Right k) (hu : KilnB w n₀ (.agg #[.int .i64 k.room, .int .i64 k.per, vl, vd, vw]) k) (hbk : Bk < w.heap.size) (h0 : w.heap[Bk]? = some (.cells #[.int .i64 k.room, .int .i64 k.per, vl, vd, vw] 26)) :
    Gives Tryz.prog n₀ 0 tiesU (.func (.func 131) #[] #[.pointer (some ⟨Bk, 0, none⟩)]) encT (tiesL k) w := by
  refine ⟨_, _, rfl, enters_of Tryz.func131 (by kernel_rfl) rfl, fun lp J Jx W hW oJ oJx hY hJ => ?_⟩
  replace h0 := (hW.block _ (size_of_block h0)).trans h0
  replace hbk := Nat.lt_of_lt_of_le hbk hW.size
  have hu0 := hu.below (hW.mono hn₀)
  replace hn₀ := Nat.le_trans hn₀ hW.size
  clear hW hu
  obtain ⟨al, ad, aw, e, hl, hd, hw⟩ := id hu0
  obtain ⟨rfl, rfl, rfl⟩ : vl = al ∧ vd = ad ∧ vw = aw := by simpa using e
  obtain ⟨A1, cap1, rfl⟩ := Sl.form1 hl
  obtain ⟨A2, cap2, rfl⟩ := Sl.form1 hd
  obtain ⟨A3, cap3, rfl⟩ := Sl.form1 hw
  have HU := Lib.hid hu0
  have HL := Lib.hid hl
  have HD := Lib.hid hd
  have HR := Lib.hid hR
  have HY := Lib.hid hY
  have hl20 := hR.ls
  have hd20 := hR.ds
  clear hu0 hY hR hl hd hw e
  show Calls _ _ #[.func (.yield lp) #[] #[], .pointer (some ⟨Bk, 0, none⟩)] W _
  (refine (callsIn_wide (n := 9)).1 (callsIn_of_wp_marks Tryz.func131 rfl trivial ?_ rfl); simp only [Tryz.ntmps131, List.size_toArray, List.length_cons, List.length_nil, Nat.reduceAdd, Nat.reduceSub, Array.replicate_succ, Array.replicate_zero, List.push_toArray, List.append_toArray, List.nil_append, List.cons_append])
  gi_wp2_with fail
  have y0 := heap_alloc_new W (.cells #[.func (.yield lp) #[] #[]] 192)
  have a1 := below_alloc W (.cells #[.func (.yield lp) #[] #[]] 192)
  generalize W.alloc (.cells #[.func (.yield lp) #[] #[]] 192) = W0 at y0 a1 ⊢
  have J0 := own_grown oJ hJ a1
  have q0 := (a1.block _ (size_of_block h0)).trans h0
  have s1 := a1.size
  have zy := size_of_block y0
  have c0 := Joins.cell_of_block q0 0
  have c1 := Joins.cell_of_block q0 1
  have c2 := Joins.cell_of_block q0 2
  have c3 := Joins.cell_of_block q0 3
  have c4 := Joins.cell_of_block q0 4
  have zk := size_of_block q0
  refine wpIn_region_picked_quiet (r := none) [0, 3, 6, 8, 10, 14] [1, 2, 4, 5, 7, 9, 11, 12, 13] [] (by kernel_rfl) (by kernel_rfl) fun hcg => ?_
  simp only [pick, List.filterMap_cons, List.filterMap_nil, List.getElem?_toArray, List.getElem?_cons_succ, List.getElem?_cons_zero]
  iterate 6 (refine wpRel_step (fun K hK => ?_); go_simp; refine hK _ ?_; clear hK K)
  refine wpRel_nil fun g => ?_
  have G0 := g.b
  generalize g.val = V0 at G0 ⊢
  clear hcg c0 c1 c2 c3 c4 g
  -- loads
  refine ⟨rfl, ?_⟩
  go_simp
  refine ⟨trivial, calls_any (r := none) ((loadsV _ _ _ _ _ _ _ V0).mono ?_)⟩
  rintro e X0 ⟨rfl, hx0⟩
  refine ⟨below_then G0 hx0, fun V1 hu1 => ?_⟩
  have G1 := below_then G0 (below_then hx0 hu1)
  clear hx0 hu1
  refine ⟨rfl, ?_⟩
  go_simp
  refine ⟨trivial, calls_any (r := none) ((mkL_c _ _ _ _ V1).mono ?_)⟩
  rintro e X1 ⟨rfl, rfl⟩
  have f1 := heap_alloc_new V1 (.cells #[.slice A1 k.ls.length cap1, .int .i64 0] 130)
  have b1 := below_alloc V1 (.cells #[.slice A1 k.ls.length cap1, .int .i64 0] 130)
  refine ⟨below_then G1 b1, fun V2 hu2 => ?_⟩
  have F1 := (hu2.block _ (size_of_block f1)).trans f1
  have G2 := below_then G1 (below_then b1 hu2)
  clear f1 b1 hu2
  -- draws
  refine ⟨rfl, ?_⟩
  go_simp
  refine ⟨trivial, calls_any (r := none) ((drawsV _ _ _ _ _ _ _ _ _ V2).mono ?_)⟩
  rintro e X2 ⟨rfl, hx2⟩
  refine ⟨below_then G2 hx2, fun V3 hu3 => ?_⟩
  have d3 := below_then hx2 hu3
  have F1' := (d3.block _ (size_of_block F1)).trans F1
  have G3 := below_then G2 d3
  clear hx2 hu3 F1
  refine ⟨rfl, ?_⟩
  go_simp
  refine ⟨trivial, calls_any (r := none) ((mkD_c _ _ _ _ V3).mono ?_)⟩
  rintro e X3 ⟨rfl, rfl⟩
  have f0 := heap_alloc_new V3 (.cells #[.slice A2 k.ds.length cap2, .int .i64 k.ls.length] 134)
  have b0 := below_alloc V3 (.cells #[.slice A2 k.ds.length cap2, .int .i64 k.ls.length] 134)
  refine ⟨below_then G3 b0, fun V4 hu0 => ?_⟩
  have d0 := below_then b0 hu0
  have F2 := (hu0.block _ (size_of_block f0)).trans f0
  replace F1' := (d0.block _ (size_of_block F1')).trans F1'
  have G4 := below_then G3 d0
  clear f0 b0 hu0 d0
  refine ⟨rfl, ?_⟩
  go_simp
  refine ⟨trivial, calls_any (r := none) ((mkW_c _ _ _ _ _ _ _ _ _ _ _ V4).mono ?_)⟩
  rintro e X4 ⟨rfl, rfl⟩
  have f0 := heap_alloc_new V4 (.cells #[.int .i64 k.room, .int .i64 k.per, .slice A1 k.ls.length cap1, .slice A2 k.ds.length cap2, .slice A3 k.ws.length cap3] 26)
  have b0 := below_alloc V4 (.cells #[.int .i64 k.room, .int .i64 k.per, .slice A1 k.ls.length cap1, .slice A2 k.ds.length cap2, .slice A3 k.ws.length cap3] 26)
  refine ⟨below_then G4 b0, fun V5 hu0 => ?_⟩
  have d0 := below_then b0 hu0
  have F3 := (hu0.block _ (size_of_block f0)).trans f0
  replace F1' := (d0.block _ (size_of_block F1')).trans F1'
  replace F2 := (d0.block _ (size_of_block F2)).trans F2
  have G5 := below_then G4 d0
  clear f0 b0 hu0 d0
  refine ⟨rfl, ?_⟩
  go_simp
  refine ⟨trivial, calls_any (r := none) ((mkS_c _ _ _ _ _ _ _ _ _ _ _ V5).mono ?_)⟩
  rintro e X5 ⟨rfl, rfl⟩
  have f0 := heap_alloc_new V5 (.cells #[.int .i64 k.room, .int .i64 k.per, .slice A1 k.ls.length cap1, .slice A2 k.ds.length cap2, .slice A3 k.ws.length cap3] 26)
  have b0 := below_alloc V5 (.cells #[.int .i64 k.room, .int .i64 k.per, .slice A1 k.ls.length cap1, .slice A2 k.ds.length cap2, .slice A3 k.ws.length cap3] 26)
  refine ⟨below_then G5 b0, fun V6 hu0 => ?_⟩
  have d0 := below_then b0 hu0
  have F4 := (hu0.block _ (size_of_block f0)).trans f0
  replace F1' := (d0.block _ (size_of_block F1')).trans F1'
  replace F2 := (d0.block _ (size_of_block F2)).trans F2
  replace F3 := (d0.block _ (size_of_block F3)).trans F3
  have G6 := below_then G5 d0
  clear f0 b0 hu0 d0
  refine ⟨rfl, ?_⟩
  go_simp
  refine ⟨trivial, calls_any (r := none) ((mkR_c _ _ _ _ _ _ _ _ _ _ _ V6).mono ?_)⟩
  rintro e X6 ⟨rfl, rfl⟩
  have f0 := heap_alloc_new V6 (.cells #[.int .i64 k.room, .int .i64 k.per, .slice A1 k.ls.length cap1, .slice A2 k.ds.length cap2, .slice A3 k.ws.length cap3] 26)
  have b0 := below_alloc V6 (.cells #[.int .i64 k.room, .int .i64 k.per, .slice A1 k.ls.length cap1, .slice A2 k.ds.length cap2, .slice A3 k.ws.length cap3] 26)
  refine ⟨below_then G6 b0, fun V7 hu0 => ?_⟩
  have d0 := below_then b0 hu0
  have F5 := (hu0.block _ (size_of_block f0)).trans f0
  replace F1' := (d0.block _ (size_of_block F1')).trans F1'
  replace F2 := (d0.block _ (size_of_block F2)).trans F2
  replace F3 := (d0.block _ (size_of_block F3)).trans F3
  replace F4 := (d0.block _ (size_of_block F4)).trans F4
  have G7 := below_then G6 d0
  clear f0 b0 hu0 d0
  refine ⟨rfl, ?_⟩
  go_simp
  have n0 := heap_alloc_new V7 (.cells #[.func (.func 171) #[] #[.pointer (some ⟨V1.heap.size, 0, none⟩)], .func (.func 173) #[] #[.pointer (some ⟨V3.heap.size, 0, none⟩)], .func (.func 174) #[] #[.pointer (some ⟨V4.heap.size, 0, none⟩)], .func (.func 175) #[] #[.pointer (some ⟨V5.heap.size, 0, none⟩)], .func (.func 176) #[] #[.pointer (some ⟨V6.heap.size, 0, none⟩)]] 120)
  have nb := below_alloc V7 (.cells #[.func (.func 171) #[] #[.pointer (some ⟨V1.heap.size, 0, none⟩)], .func (.func 173) #[] #[.pointer (some ⟨V3.heap.size, 0, none⟩)], .func (.func 174) #[] #[.pointer (some ⟨V4.heap.size, 0, none⟩)], .func (.func 175) #[] #[.pointer (some ⟨V5.heap.size, 0, none⟩)], .func (.func 176) #[] #[.pointer (some ⟨V6.heap.size, 0, none⟩)]] 120)
  refine ⟨below_then G7 nb, fun V8 hu8 => ?_⟩
  have d8 := below_then nb hu8
  have N8 := (hu8.block _ (size_of_block n0)).trans n0
  have G8 := below_then G7 d8
  replace F1' := (d8.block _ (size_of_block F1')).trans F1'
  replace F2 := (d8.block _ (size_of_block F2)).trans F2
  replace F3 := (d8.block _ (size_of_block F3)).trans F3
  replace F4 := (d8.block _ (size_of_block F4)).trans F4
  replace F5 := (d8.block _ (size_of_block F5)).trans F5
  clear n0 nb hu8 d8
  refine ⟨rfl, ?_⟩
  go_simp
  refine ⟨G8, fun V9 hu9 => ?_⟩
  have N9 := (hu9.block _ (size_of_block N8)).trans N8
  have G9 := below_then G8 hu9
  replace F1' := (hu9.block _ (size_of_block F1')).trans F1'
  replace F2 := (hu9.block _ (size_of_block F2)).trans F2
  replace F3 := (hu9.block _ (size_of_block F3)).trans F3
  replace F4 := (hu9.block _ (size_of_block F4)).trans F4
  replace F5 := (hu9.block _ (size_of_block F5)).trans F5
  clear N8 G8 hu9 G0 G1 G2 G3 G4 G5 G6 G7
  have b9 : Below n₀ W V9 := (a1.mono hn₀).trans (G9.mono (by omega))
  have Y9 := (G9.block _ zy).trans y0
  have J9 := own_grown oJ J0 G9
  have s9 := G9.size
  have HG : Hid (∀ j : Nat, j < 5 → ∃ (gf : Nat) (lb : Array Value), (#[.func (.func 171) #[] #[.pointer (some ⟨V1.heap.size, 0, none⟩)], .func (.func 173) #[] #[.pointer (some ⟨V3.heap.size, 0, none⟩)], .func (.func 174) #[] #[.pointer (some ⟨V4.heap.size, 0, none⟩)], .func (.func 175) #[] #[.pointer (some ⟨V5.heap.size, 0, none⟩)], .func (.func 176) #[] #[.pointer (some ⟨V6.heap.size, 0, none⟩)]] : Array Value)[j]? = some (.func (.func gf) #[] lb) ∧ ∀ V, Kp n₀ 0 tiesU V9 V → Gives Tryz.prog n₀ 0 tiesU (.func (.func gf) #[] lb) encT (pieceT k j) V) := by
    show ∀ j : Nat, j < 5 → _
    intro j hj
    have hn : ∀ V, Kp n₀ 0 tiesU V9 V → n₀ ≤ V.heap.size := fun V hV => by have := hV.b.size; omega
    match j, hj with
    | 0, _ => exact ⟨_, _, rfl, fun V hV => rowL_g (hn V hV) (HL.out.below (b9.trans hV.b)) HR.out.rowL (by omega) (hV.t _ _ _ _ (Nat.zero_le _) F1' (by simp))⟩
    | 1, _ => exact ⟨_, _, rfl, fun V hV => rowD_g (hn V hV) (HD.out.below (b9.trans hV.b)) HR.out.rowD (by omega) (hV.t _ _ _ _ (Nat.zero_le _) F2 (by simp))⟩
    | 2, _ => exact ⟨_, _, rfl, fun V hV => weigh_g (hn V hV) HR.out (HU.out.below (b9.trans hV.b)) (hV.t _ _ _ _ (Nat.zero_le _) F3 (by simp))⟩
    | 3, _ => exact ⟨_, _, rfl, fun V hV => stock_g (hn V hV) HR.out (HU.out.below (b9.trans hV.b)) (hV.t _ _ _ _ (Nat.zero_le _) F4 (by simp))⟩
    | 4, _ => exact ⟨_, _, rfl, fun V hV => room_g (hn V hV) HR.out (HU.out.below (b9.trans hV.b)) (hV.t _ _ _ _ (Nat.zero_le _) F5 (by simp))⟩
  show wpListIn _ _ _ _ _ _ _ _
  gi_wp2_with fail
  simp only [noPanic]
  gi_wp2_with fail
  generalize (Value.agg #[Value.int IntKind.i64 k.room, Value.int IntKind.i64 k.per, Value.slice A1 k.ls.length cap1, Value.slice A2 k.ds.length cap2, Value.slice A3 k.ws.length cap3]) = kv
  generalize (Value.agg #[Value.slice A1 k.ls.length cap1, Value.int IntKind.i64 0]) = v7
  generalize (Value.agg #[Value.slice A2 k.ds.length cap2, Value.int IntKind.i64 (k.ls.length : Int)]) = v10
  generalize (Value.func (Fn.func 171) _ _) = g1
  generalize (Value.func (Fn.func 173) _ _) = g2
  generalize (Value.func (Fn.func 174) _ _) = g3
  generalize (Value.func (Fn.func 175) _ _) = g4
  generalize (Value.func (Fn.func 176) _ _) = g5
  refine wpIn_loop (fun a' w' => ∃ (j : Nat) (Ds : List Nat) (u4 u5 u21 u22 u23 u24 u25 u26 u27 u28 u29 u30 : Value), a' = { tmps := #[.func (.yield lp) #[] #[], .pointer (some ⟨Bk, 0, none⟩), .pointer (some ⟨W.heap.size, 0, none⟩), undef, u4, u5, kv, v7, g1, kv, v10, g2, kv, g3, kv, g4, kv, g5, .slice (some ⟨V7.heap.size, 0, none⟩) 5 5, .int .i64 5, .int .i64 j, u21, u22, u23, u24, u25, u26, u27, u28, u29, u30], defers := marksD Ds } ∧ j ≤ 5 ∧ J (piecesT k j) w' ∧ Kp n₀ 0 tiesU V9 w' ∧ Ds.Nodup ∧ ∀ D ∈ Ds, W.heap.size ≤ D ∧ w'.heap[D]? = some (.deferred (some [])))
    (fun a' _ => (5 - intOf (a'.tmps.getD 20 undef)).toNat) ?_ ?_
  · exact ⟨0, [], _, _, _, _, _, _, _, _, _, _, _, _, rfl, by omega, J9, Kp.refl _ _ _ _, by simp, by simp⟩
  · rintro a' wr ⟨j, Ds, u4, u5, u21, u22, u23, u24, u25, u26, u27, u28, u29, u30, rfl, hj, hJs, hkp, hnd, hD⟩
    have hyb := hkp.t _ _ _ _ (Nat.zero_le _) Y9 (by simp)
    by_cases hlt : j < 5
    · obtain ⟨gf, lb, hcell, hGj⟩ := HG.out j hlt
      have nb := hkp.t _ _ _ _ (Nat.zero_le _) N9 (by simp)
      have cc := (Joins.cell_of_block nb j).trans hcell
      have HGj := Lib.hid (hGj wr hkp)
      have HD2 := Lib.hid hD
      have HND := Lib.hid hnd
      have HKP := Lib.hid hkp
      have wz := hkp.b.size
      clear hcell hGj nb hD hnd hkp
      have dj : decide ((j : Int) < 5) = true := by simp; omega
      gi_wp2_with fail
      have hle : piecesT k (j + 1) <+: tiesL k := by rw [← pieces_all]; exact flat_prefix _ (by omega)
      have HLE := Lib.hid hle
      have zyb := size_of_block hyb
      have hDlt : ∀ D ∈ Ds, D < wr.heap.size := fun D hD' => size_of_block (HD2.out D hD').2
      have HDL := Lib.hid hDlt
      clear hle hDlt dj cc
      refine wpIn_over (U := tiesU) (n₀ := n₀) (B := 0) HGj.out rfl (fun _ => rfl) (by omega)
        (fun pre W' => (W'.heap[W.heap.size]? = some (.cells #[.func (.yield lp) #[] #[]] 192) ∧ (∀ D ∈ Ds, W'.heap[D]? = some (.deferred (some [])))) ∧ J (piecesT k j ++ pre) W' ∧ Kp n₀ 0 tiesU V9 W')
        (fun c _ W' => (c = .ret ∧ ∃ q, q <+: tiesL k ∧ Jx q W') ∧ ∀ D ∈ Ds, W'.heap[D]? = some (.deferred (some [])))
        (((own_cells _ _ _ fun _ => rfl).and (own_all _ HDL.out)).and ((own_comp (ownUp oJ (by omega)) _).and (own_kp (by omega) (by omega))))
        (fun c s X Y row hs hg hrow => ⟨⟨hs.1.1, hs.1.2.elim fun q hq => ⟨q, hq.1, ownUp oJx (by omega) q X Y row hq.2 hg hrow⟩⟩, own_all (β := List Tie) _ HDL.out s X Y row hs.2 hg hrow⟩) ⟨⟨hyb, fun D hD' => (HD2.out D hD').2⟩, by rw [List.append_nil]; exact hJs, HKP.out⟩
        (fun x a' W' => ∃ Bx, W.heap.size ≤ Bx ∧ W'.heap[Bx]? = some (.cells #[.int .i64 x.frm, .int .i64 x.too, .int .i64 x.most, .int .i64 x.id] 99) ∧ a' = { tmps := #[.func (.yield lp) #[] #[], .pointer (some ⟨Bk, 0, none⟩), .pointer (some ⟨W.heap.size, 0, none⟩), undef, .func (.func gf) #[] lb, .pointer (some ⟨Bx, 0, none⟩), kv, v7, g1, kv, v10, g2, kv, g3, kv, g4, kv, g5, .slice (some ⟨V7.heap.size, 0, none⟩) 5 5, .int .i64 5, .int .i64 j, .bool true, .pointer (some ⟨V7.heap.size, j, none⟩), .func (.func gf) #[] lb, .func (.func gf) #[] lb, tV x, u26, u27, u28, u29, u30], defers := [] })
        (fun x a' s X Y row hs hg hrow => by
          obtain ⟨Bx, h1, h2, h3⟩ := hs
          exact ⟨Bx, h1, own_cells (β := Unit) wr.heap.size Bx (fun _ => .cells #[.int .i64 x.frm, .int .i64 x.too, .int .i64 x.most, .int .i64 x.id] 99) (fun _ => rfl) s X Y row h2 hg hrow, h3⟩) ?assign ?body ?done ?stop
      case assign =>
        rintro l2 pre x W' K hl ⟨⟨i1, i2⟩, i3, i4⟩ hp hK
        unfold encT tV
        gi_wp2
        have ha := below_alloc W' (.cells #[.int .i64 x.frm, .int .i64 x.too, .int .i64 x.most, .int .i64 x.id] 99)
        have hz := size_of_block i1
        have hz9 := i4.b.size
        exact hK _ _ (keeps_of_below ha) (Kp.of_below ha (by omega)) ⟨⟨(ha.block _ (size_of_block i1)).trans i1, fun D hD' => (ha.block _ (size_of_block (i2 D hD'))).trans (i2 D hD')⟩, own_grown oJ i3 ha, i4.trans (Kp.of_below ha (by omega))⟩ ⟨W'.heap.size, (by omega), heap_alloc_new _ _, rfl⟩
      case done =>
        rintro D W' hDD ⟨⟨i1, i2⟩, i3, i4⟩ hK
        gi_wp2_with fail
        have hDw : ∀ E ∈ D :: Ds, W.heap.size ≤ E ∧ W'.heap[E]? = some (.deferred (some [])) := fun E hE => by
          rcases List.mem_cons.1 hE with rfl | hE
          · exact ⟨by omega, hK⟩
          · exact ⟨(HD2.out E hE).1, i2 E hE⟩
        have hnd2 : (D :: Ds).Nodup := List.nodup_cons.2 ⟨fun hm => by have := HDL.out D hm; omega, HND.out⟩
        have hJn : J (piecesT k (j + 1)) W' := by rw [piecesT_next]; exact i3
        refine ⟨⟨j + 1, D :: Ds, _, _, _, _, _, _, _, _, _, _, _, _, rfl, by omega, hJn, i4, hnd2, hDw⟩, ?_⟩
        simp [intOf]
        omega
      case stop =>
        rintro D c pre W' hDD hp ⟨⟨rfl, q, hq1, hq2⟩, i2⟩ hK
        gi_wp2_with fail
        have hDw : ∀ E ∈ D :: Ds, W.heap.size ≤ E ∧ W'.heap[E]? = some (.deferred (some [])) := fun E hE => by
          rcases List.mem_cons.1 hE with rfl | hE
          · exact ⟨by omega, hK⟩
          · exact ⟨(HD2.out E hE).1, i2 E hE⟩
        have hnd2 : (D :: Ds).Nodup := List.nodup_cons.2 ⟨fun hm => by have := HDL.out D hm; omega, HND.out⟩
        refine leaves_marks (B := W.heap.size) (I := fun _ W' => Jx q W') (by simp) (own_comp oJx _) (fun w' h => ?_) (D :: Ds) W' hq2 hnd2 hDw
        exact ⟨_, results_none rfl _ _ _, ⟨_, rfl⟩, .inr ⟨q, hq1, h⟩⟩
      case body =>
        rintro l2 pre x a' W1 hl ⟨rc, hrc⟩ ⟨⟨i1, i2⟩, i3, i4⟩ ⟨Bx, hBx, xB, rfl⟩ hpx
        have y0 := Joins.cell_of_block i1 0
        have x0 := Joins.cell_of_block xB 0
        have x1 := Joins.cell_of_block xB 1
        have x2 := Joins.cell_of_block xB 2
        have x3 := Joins.cell_of_block xB 3
        have hst : (piecesT k j ++ pre) ++ [x] <+: tiesL k := by
          rw [List.append_assoc]
          refine List.IsPrefix.trans ?_ HLE.out
          rw [piecesT_next]
          exact (List.prefix_append_right_inj _).2 hpx
        obtain ⟨fn, tmps, assign, body, hyy, hR⟩ := yield_any (r := some l2) (m' := 6) (HY.out _ x W1 i3 hst)
        have HST := Lib.hid hst
        clear hst
        unfold encT tV at hyy
        gi_wp2_with fail
        refine hR.mono ?_
        rintro e W8 (⟨rfl, hJ8, hk8, hf8⟩ | ⟨rfl, hJx8, hf8⟩)
        · gi_wp2_with fail
          refine ⟨keepsFrom_up hf8 (by omega), hk8, ⟨⟨hk8.t _ _ _ _ (Nat.zero_le _) i1 (by simp), fun D hD' => hf8.same D _ (HD2.out D hD').1 (i2 D hD') rfl⟩, ?_, i4.trans hk8⟩⟩
          rw [← List.append_assoc]
          exact hJ8
        · gi_wp2_with fail
          exact ⟨keepsFrom_up hf8 (by omega), ⟨rfl, _, HST.out, hJx8⟩, fun D hD' => hf8.same D _ (HD2.out D hD').1 (i2 D hD') rfl⟩
    · obtain rfl : j = 5 := by omega
      gi_wp2
      refine leaves_marks (B := W.heap.size) (I := fun _ W' => J (piecesT k 5) W') (by simp) (own_comp oJ _) (fun w' h => ?_) Ds wr hJs hnd hD
      exact ⟨_, results_none rfl _ _ _, ⟨_, rfl⟩, .inl (by rw [← pieces_all]; exact h)⟩
end Go.Proofs.YtnedcclmfokdnaaGreat
namespace Go.Proofs.YtnedcclmfokdnaaGreat
open Go Go.RowKit Go.Shelf
attribute [local go_sem] Oper.semAt_some
theorem kilnForm {w : World} {v : Value} {k : Kl} (h : Kiln w v k) : ∃ A1 c1 A2 c2 A3 c3, v = .agg #[.int .i64 k.room, .int .i64 k.per, .slice A1 k.ls.length c1, .slice A2 k.ds.length c2, .slice A3 k.ws.length c3] := by
  obtain ⟨a, b, c, e, h1, h2, h3⟩ := h
  obtain ⟨A1, c1, rfl⟩ := Sl.form1 h1
  obtain ⟨A2, c2, rfl⟩ := Sl.form1 h2
  obtain ⟨A3, c3, rfl⟩ := Sl.form1 h3
  exact ⟨A1, c1, A2, c2, A3, c3, e⟩
theorem ties_c (k : Kl) (v : Value) (w : World) (hv : Kiln w v k) (hR : Right k) :
    Calls Tryz.prog 70 #[v] w fun e w' => (∃ gf lb, e = .returned (.func (.func gf) #[] lb) ∧ Gives Tryz.prog w'.heap.size 0 tiesU (.func (.func gf) #[] lb) encT (tiesL k) w') ∧ Below w.heap.size w w' := by
  obtain ⟨A1, c1, A2, c2, A3, c3, rfl⟩ := kilnForm hv
  have q0 := heap_alloc_new w (.cells #[.int .i64 k.room, .int .i64 k.per, .slice A1 k.ls.length c1, .slice A2 k.ds.length c2, .slice A3 k.ws.length c3] 26)
  have qb := below_alloc w (.cells #[.int .i64 k.room, .int .i64 k.per, .slice A1 k.ls.length c1, .slice A2 k.ds.length c2, .slice A3 k.ws.length c3] 26)
  have hz := size_of_block q0
  have HG := Lib.hid (ties_g (Nat.le_refl _) hR (hv.later qb).toB hz q0)
  clear hz q0
  go_enter Tryz.func70, Tryz.ntmps70
  go_wp2_with fail
  go_ret
  exact ⟨⟨_, _, rfl, HG.out⟩, qb⟩
set_option maxRecDepth 100000 in
set_option maxHeartbeats 4000000 in
theorem append_c (things : Value) (n₀ B : Nat) (xs : List Tie) (w : World) (hG : Gives Tryz.prog n₀ B tiesU things encT xs w) (hn : n₀ ≤ w.heap.size) (hlen : xs.length ≤ 5000) :
    Calls Tryz.prog 130 #[.slice none 0 0, things] w fun e w' => ∃ v, e = .returned v ∧ w'.ownsRow w.heap.size 99 4 v xs.length (xs.flatMap tC) ∧ Below w.heap.size w w' := by
  obtain ⟨i0, hi, hz0, hz1, hz2⟩ := info_parts Tryz.infoTie
  have HI := Lib.hid hi
  have HI0 := Lib.hid hz0
  have HI1 := Lib.hid hz1
  have HI2 := Lib.hid hz2
  clear hi hz0 hz1 hz2
  obtain ⟨gf, lb, rfl, hGo⟩ : ∃ gf lb, things = .func (.func gf) #[] lb ∧ True := by obtain ⟨gf, lb, h, _⟩ := hG; exact ⟨gf, lb, h, trivial⟩
  clear hGo
  (refine (callsIn_wide (n := 9)).1 (callsIn_of_wp_marks Tryz.func130 rfl trivial ?_ rfl); simp only [Tryz.ntmps130, List.size_toArray, List.length_cons, List.length_nil, Nat.reduceAdd, Nat.reduceSub, Array.replicate_succ, Array.replicate_zero, List.push_toArray, List.append_toArray, List.nil_append, List.cons_append])
  gi_wp2_with fail
  have b1 : Go.Boxed (w.alloc (.cells #[.slice none 0 0] 32)) w.heap.size 32 (.slice none 0 0) := Go.Boxed.new w _ _
  have a1 := below_alloc w (.cells #[.slice none 0 0] 32)
  have hs1 : (w.alloc (.cells #[.slice none 0 0] 32)).heap.size = w.heap.size + 1 := by simp
  generalize w.alloc (.cells #[.slice none 0 0] 32) = W0 at b1 a1 hs1 ⊢
  have hs0 := a1.size
  have QS := Lib.hid hs1
  clear hs1
  refine wpIn_over (hG.later a1) rfl (fun _ => rfl) (by omega)
    (fun pre W' => (∃ v, Go.Boxed W' w.heap.size 32 v ∧ W'.ownsRow w.heap.size 99 4 v pre.length (pre.flatMap tC) ∧ True) ∧ Below w.heap.size w W')
    (fun _ _ _ => False)
    ((Own.from (holdsRow_own _ _ _ _ _ _ _ (fun _ _ => True)) _).and (ownFrom_below (Nat.le_refl _) (by omega)))
    (fun _ _ _ _ _ hs _ _ => hs) ⟨⟨_, b1, World.ownsRow_nil _ _ _ _, trivial⟩, a1⟩
    (fun x a' W' => ∃ Bx, w.heap.size + 1 ≤ Bx ∧ W'.heap[Bx]? = some (.cells #[.int .i64 x.frm, .int .i64 x.too, .int .i64 x.most, .int .i64 x.id] 99) ∧ a' = { tmps := #[.slice none 0 0, .func (.func gf) #[] lb, .pointer (some ⟨w.heap.size, 0, none⟩), undef, .slice none 0 0, .pointer (some ⟨Bx, 0, none⟩), .func (.func gf) #[] lb, tV x, undef, undef, undef, undef, undef], defers := [] })
    (fun x a' s' X Y row hs hg hrow => by
      obtain ⟨Bx, h1, h2, h3⟩ := hs
      exact ⟨Bx, h1, own_cells (β := Unit) W0.heap.size Bx (fun _ => .cells #[.int .i64 x.frm, .int .i64 x.too, .int .i64 x.most, .int .i64 x.id] 99) (fun _ => rfl) s' X Y row h2 hg hrow, h3⟩) ?assign ?body ?done ?stop
  case assign =>
    rintro l pre x W' K hl ⟨⟨v, i1, i2, _⟩, i4⟩ hp hK
    unfold encT tV
    gi_wp2
    have ha := below_alloc W' (.cells #[.int .i64 x.frm, .int .i64 x.too, .int .i64 x.most, .int .i64 x.id] 99)
    have hz := i1.lt
    have hsz := i4.size
    refine hK _ _ (keeps_of_below ha) (Kp.of_below ha (by omega)) ⟨⟨v, i1.alloc _, own_later i2 ha, trivial⟩, below_then i4 ha⟩ ⟨W'.heap.size, by omega, heap_alloc_new _ _, rfl⟩
  case done =>
    rintro D W' hD ⟨⟨v, i1, i2, _⟩, i4⟩ hK
    have hc := i1.cell
    gi_wp2_with fail
    refine ⟨by simp, .inl ⟨_, _, rfl, run_takeDeferred hK, ?_⟩⟩
    refine ⟨_, results_tmp rfl _ _ _, _, rfl, ownsRow_putObj i2 _ hK rfl, i4.trans (belowK_b (w := w) (Nat.le_refl _) _ D _ _ (by omega) hK rfl rfl)⟩
  case stop =>
    intro D c pre W' _ _ h _
    exact h.elim
  case body =>
    rintro l pre x a' W' hl hrc ⟨⟨v, i1, i2, _⟩, i4⟩ ⟨Bx, hBx, xB, rfl⟩ hp
    have x0 := Joins.cell_of_block xB 0
    have x1 := Joins.cell_of_block xB 1
    have x2 := Joins.cell_of_block xB 2
    have x3 := Joins.cell_of_block xB 3
    have hc := i1.cell
    have hz := i1.lt
    have hzx := size_of_block xB
    have hpl := Lib.hid (by have := hp.length_le; simp only [List.length_append, List.length_cons, List.length_nil] at this; omega : pre.length + 1 ≤ 5000)
    have hw' := i4.size
    unfold tV
    gi_wp2_with (gi_at_builtin; refine wpListIn_append_own _ rfl _ _ 32 rfl w.heap.size 99 i0 (.agg #[.int .i64 0, .int .i64 0, .int .i64 0, .int .i64 0]) 4 32 Tryz.underlying32 HI.out HI0.out HI1.out HI2.out rfl (by decide) _ _ _ rfl (own_later i2 (below_alloc _ _)) ⟨W'.heap.size, 0, none⟩ 1 1 [.int .i64 x.frm, .int .i64 x.too, .int .i64 x.most, .int .i64 x.id] rfl rfl ?c1 ?c2 ?c3 ?c4 ?c5 ?_)
    case c1 => have := cells_new W' [.int .i64 x.frm, .int .i64 x.too, .int .i64 x.most, .int .i64 x.id] 99; simpa using this
    case c2 => intro u hu; simp at hu; rcases hu with rfl | rfl | rfl | rfl <;> rfl
    case c3 => have := hpl.out; unfold maxLen; omega
    case c4 => have := hpl.out; omega
    case c5 => simp; omega
    intro v' w1 hown' hgrow _
    obtain ⟨g', cap', rfl⟩ := ownsRow_succ hown'
    obtain ⟨hv1, hv2, hr2, hk2, hb2⟩ := Go.Boxed.appended i1 (by decide) i2 hw' (Nat.le_refl _) hown' hgrow
    have hkp := Lib.hid (kp_appended (n₀ := n₀) (B := B) (U := tiesU) i1 (by decide) i2 hw' (Nat.le_refl _) hown' hgrow hn (by decide) (by decide))
    have hc1 := hv1.cell
    have hf1 := hv1.frozen
    have HK2 := Lib.hid hk2
    have HB2 := Lib.hid hb2
    have HR2 := Lib.hid hr2
    clear hk2 hb2 hgrow hown' hr2
    gi_wp2_with fail
    refine ⟨HK2.out.from _, hkp.out, ⟨_, hv2, ?_, trivial⟩, i4.trans HB2.out⟩
    rw [List.length_append, List.flatMap_append]
    simpa [tC] using HR2.out
theorem collect_c (things : Value) (n₀ B : Nat) (xs : List Tie) (w : World) (hG : Gives Tryz.prog n₀ B tiesU things encT xs w) (hn : n₀ ≤ w.heap.size) (hlen : xs.length ≤ 5000) :
    Calls Tryz.prog 69 #[things] w fun e w' => ∃ v, e = .returned v ∧ w'.ownsRow w.heap.size 99 4 v xs.length (xs.flatMap tC) ∧ Below w.heap.size w w' := by
  go_enter Tryz.func69, Tryz.ntmps69
  go_wp2_with fail
  refine (append_c things n₀ B xs w hG hn hlen).mono ?_
  rintro e w1 ⟨v, rfl, hv, hb1⟩
  go_wp2_with fail
  go_ret
  exact ⟨v, rfl, hv, hb1⟩
end Go.Proofs.YtnedcclmfokdnaaGreat
namespace Go.Proofs.YtnedcclmfokdnaaGreat
open Go Go.RowKit Go.Shelf
attribute [local go_sem] Oper.semAt_some Rel RelAt RelUpon
def tiesE (k : Kl) : List Tie := if checkI k = 0 then tiesL k else []
set_option maxRecDepth 100000 in
set_option maxHeartbeats 4000000 in
theorem netOf_c (k : Kl) (v : Value) (w : World) (hv : Kiln w v k) (hR : Right k) :
    Calls Tryz.prog 87 #[v] w fun e w' => ∃ u, e = .returned (.agg #[.int .i64 (marksN k), u]) ∧ TiesAt w' w'.heap.size u (tiesL k) ∧ Below w.heap.size w w' := by
  obtain ⟨A1, c1, A2, c2, A3, c3, rfl⟩ := kilnForm hv
  obtain ⟨q0, q1, -, qb⟩ := two_new' w (.cells #[.int .i64 k.room, .int .i64 k.per, .slice A1 k.ls.length c1, .slice A2 k.ds.length c2, .slice A3 k.ws.length c3] 26) (.cells #[.int .i64 0, .slice none 0 0] 145)
  have hk := hv.later qb
  have HL := Lib.hid (tiesL_len hR.small)
  have hl := hR.ls
  have hd := hR.ds
  have HR := Lib.hid hR
  clear hR hv
  go_enter Tryz.func87, Tryz.ntmps87
  go_wp2_with fail
  generalize (w.alloc _).alloc _ = W1 at q0 q1 qb hk ⊢
  refine wp_region_looseM [] [0, 1, 2, 3, 4, 5, 6, 7, 8] (.one 9 (.one 10 .done)) [] [] [11, 12] [] [] (by kernel_rfl) (by kernel_rfl) (by intro c a d v w h; cases d <;> exact h) (by intro c a d v w h; cases d <;> exact h) rfl (fun r i h => by simp at h) ?_
  simp only [pick, List.filterMap_cons, List.filterMap_nil, List.getElem?_toArray, List.getElem?_cons_succ, List.getElem?_cons_zero]
  intro u1 hu1
  replace q1 := (hu1.block _ (size_of_block q1)).trans q1
  replace q0 := (hu1.block _ (size_of_block q0)).trans q0
  replace hk := hk.later hu1
  replace qb := below_then qb hu1
  have cq00 := Joins.cell_of_block q0 0
  have cq01 := Joins.cell_of_block q0 1
  have cq02 := Joins.cell_of_block q0 2
  have cq03 := Joins.cell_of_block q0 3
  have cq04 := Joins.cell_of_block q0 4
  have zq0 := size_of_block q0
  have hcg : ∀ (g : Gr u1) b o, b < u1.heap.size → g.val.cell? ⟨b, o, none⟩ = u1.cell? ⟨b, o, none⟩ := fun g b o h => (bcell g.b).1 b o h
  iterate 9 (refine wpRel_step (fun K hK => ?_); go_simp; refine hK _ ?_; clear hK K)
  refine wpRel_nil fun V1_0 hb1 => ?_
  clear hcg cq00 cq01 cq02 cq03 cq04 zq0
  replace q0 := (hb1.block _ (size_of_block q0)).trans q0
  replace q1 := (hb1.block _ (size_of_block q1)).trans q1
  replace hk := hk.later hb1
  replace qb := below_then qb hb1
  clear hb1 hu1
  refine wpTr_step rfl rfl fun K hK => ?_
  go_simp
  refine (ties_c k _ V1_0 hk HR.out).mono ?_
  rintro e X ⟨⟨gf, lb, rfl, hG⟩, hx⟩
  refine hK _ _ hx fun V1_1 hu => ?_
  clear hK K
  have hxu := below_then hx hu
  replace q0 := (hxu.block _ (size_of_block q0)).trans q0
  replace q1 := (hxu.block _ (size_of_block q1)).trans q1
  replace hk := hk.later hxu
  replace qb := below_then qb hxu
  have hG2 := (hG.later hu).more hu.size
  clear hx hu hxu hG
  refine wpTr_step rfl rfl fun K hK => ?_
  go_simp
  refine (collect_c _ _ 0 (tiesL k) V1_1 hG2 (Nat.le_refl _) (by have := HL.out; omega)).mono ?_
  rintro e X ⟨u, rfl, hO, hx⟩
  refine hK _ _ hx fun V1_2 hu => ?_
  clear hK K
  replace hO := own_below hO hu
  have hxu := below_then hx hu
  replace q0 := (hxu.block _ (size_of_block q0)).trans q0
  replace q1 := (hxu.block _ (size_of_block q1)).trans q1
  replace hk := hk.later hxu
  replace qb := below_then qb hxu
  clear hx hu hxu
  show wpPure _ _ _ _
  intro ks hks _ _
  obtain rfl : ks = [] := List.length_eq_zero_iff.1 hks
  clear hks
  show wpList _ _ _ _ _ _
  simp only [deco]
  obtain ⟨A, cap, rfl⟩ := own_form hO
  have hne := own_ne_block hO q1 (by decide)
  have hO2 := own_setCell (own_setCell hO 0 (.int .i64 (1 + k.ls.length + k.ds.length)) hne) 1 (.slice A (tiesL k).length cap) hne
  have HT := Lib.hid (Sl.of_own tC_len hO2 (by have := HL.out; omega))
  have HPP := Lib.hid (put2 (.int .i64 (1 + k.ls.length + k.ds.length)) (.slice A (tiesL k).length cap) q1)
  have e0 := Joins.cell_of_block q1 0
  have e1 := Joins.cell_of_block q1 1
  have f0 := Joins.unfrozen_of_block q1 0
  have f1 := Joins.unfrozen_of_block q1 1
  have z1 := Lib.hid (size_of_block q1)
  clear hO hO2 hne
  go_wp2_with fail
  refine bodyPost_ret (v := .agg #[.int .i64 (1 + k.ls.length + k.ds.length), .slice A (tiesL k).length cap]) ?_ rfl ⟨_, rfl, HT.out, below_set (below_set qb (by omega)) (by omega)⟩
  simp [results, Tryz.results87, go_sem, HPP.out.1, HPP.out.2]
end Go.Proofs.YtnedcclmfokdnaaGreat
