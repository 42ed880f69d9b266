/- Texts joined: FProgD FProgZ. -/
import Derived.Test.YtjpoacffnpgjdaaGreatJ8
import Derived.Test.YtjpoacffnpgjdaaGreatJ11
/- The looks of a fire one by one, collected, by the library's functions. -/
namespace Go.Proofs.YtjpoacffnpgjdaaGreat
open Go Go.RowKit Go.Shelf
attribute [local go_sem] Oper.semAt_some

def encLk (x : Lk) : Array Value := #[lkV x]
theorem Tryz.infoLk : (Tryz.prog.info? 90).map (fun i => (i.zero, i.size, i.bytes)) = some (some (.agg #[.int .i64 0, .int .i64 0, .int .i64 0, .int .i64 0, .int .i64 0]), 5, 40) := by kernel_rfl
set_option maxRecDepth 100000 in
set_option maxHeartbeats 2000000 in
theorem valuesLk1_c (l Bs n₀ B : Nat) (U : List TypeId) (v : Value) (xs : List Lk) (J Jx : List Lk → World → Prop) (W : World) (hv : Lks W n₀ v xs) (hn : n₀ ≤ W.heap.size) (oJ : OwnFrom W.heap.size J)
    (hY : ∀ pre x W1, J pre W1 → pre ++ [x] <+: xs → YieldAt Fence.wide 0 Tryz.prog l (encLk x) W1 fun e W' =>
        (e = .returned (.bool true) ∧ J (pre ++ [x]) W' ∧ Kp n₀ B U W1 W' ∧ KeepsFrom W.heap.size W1 W') ∨ (e = .returned (.bool false) ∧ Jx (pre ++ [x]) W' ∧ KeepsFrom W.heap.size W1 W'))
    (h0 : W.heap[Bs]? = some (.cells #[v] 22)) (hJ : J [] W) :
    Calls Tryz.prog 134 (#[.func (.yield l) #[] #[], .pointer (some ⟨Bs, 0, none⟩)]) W fun e W' => (∃ u, e = .returned u) ∧ (J xs W' ∨ ∃ pre, pre <+: xs ∧ Jx pre W') := by
  obtain ⟨A, cap, rfl, hcap, hlen, hat⟩ := hv.open_
  have H := Lib.hid hat
  clear hat hv
  have c00 := Joins.cell_of_block h0 0
  have hz := size_of_block h0
  (refine (callsIn_wide (n := 9)).1 (callsIn_of_wp Tryz.func134 rfl trivial ?_ rfl); simp only [Tryz.ntmps134, List.size_toArray, List.length_cons, List.length_nil, Nat.reduceAdd, Nat.reduceSub, Array.replicate_succ, Array.replicate_zero, List.push_toArray, List.append_toArray, List.nil_append, List.cons_append])
  gi_wp2
  gi_loopw [7] (fun i wr => ∃ j : Nat, i = .int .i64 j ∧ j ≤ xs.length ∧ J (xs.take j) wr ∧ Hid (Below n₀ W wr ∧ W.heap.size ≤ wr.heap.size)) (fun i _ => xs.length - (intOf i).toNat)
  case atStart => exact ⟨0, rfl, by omega, by simpa using hJ, Below.refl _ _, Nat.le_refl _⟩
  case round =>
    obtain ⟨j, rfl, hj, hJs, hbl⟩ := hrel
    obtain ⟨hbw, hsz⟩ := hbl.out
    by_cases hlt : j < xs.length
    · obtain ⟨b3, off3, x, rfl, hb3, hx, d0, d1, d2, d3, d4⟩ := H.out j hlt
      have d0 := (hbw.cell (p := ⟨b3, off3 + j * 5, none⟩) hb3).trans d0
      have d1 := (hbw.cell (p := ⟨b3, off3 + j * 5 + 1, none⟩) hb3).trans d1
      have d2 := (hbw.cell (p := ⟨b3, off3 + j * 5 + 2, none⟩) hb3).trans d2
      have d3 := (hbw.cell (p := ⟨b3, off3 + j * 5 + 3, none⟩) hb3).trans d3
      have d4 := (hbw.cell (p := ⟨b3, off3 + j * 5 + 4, none⟩) hb3).trans d4
      have hz3 : b3 < wr.heap.size := by omega
      have htk : Hid (xs.take (j + 1) = xs.take j ++ [x]) := by
        show _ = _
        rw [List.take_add_one, hx]; rfl
      have hp : xs.take j ++ [x] <+: xs := by rw [← htk.out]; exact List.take_prefix _ _
      obtain ⟨fn, tmps, assign, body, hy, hR⟩ := hY (xs.take j) x (wr.alloc (.cells #[.int .i64 x.id, .int .i64 x.foot, .int .i64 x.hour, .int .i64 x.lo, .int .i64 x.hi] 90)) (oJ.alloc _ hJs) hp
      unfold encLk lkV at hy
      have hba : Below n₀ W (wr.alloc (.cells #[.int .i64 x.id, .int .i64 x.foot, .int .i64 x.hour, .int .i64 x.lo, .int .i64 x.hi] 90)) := hbw.trans ((below_alloc wr _).mono (by omega))
      have HB := Lib.hid hba
      have HX := Lib.hid hx
      have HPP := Lib.hid hp
      clear hx hp hba hbl hbw hJs
      gi_wp2
      refine (round_any hR).mono ?_
      rintro e W3 (⟨rfl, hJ3, hk3, hk4⟩ | ⟨rfl, hJx3, _⟩)
      · have hs3 : W.heap.size ≤ W3.heap.size := by have := hk4.size; simp at this; omega
        have hb4 := Lib.hid (And.intro (HB.out.trans hk3.b) hs3)
        clear hk3 hk4 hs3
        gi_wp2
        go_roundw
        case rel => exact ⟨j + 1, by go_num, by omega, by rw [htk.out]; exact hJ3, hb4⟩
        case measure => simp [intOf]; omega
      · gi_wp2
        refine bodyPost_ret (results_none rfl _ _ _) rfl ?_
        exact ⟨⟨_, rfl⟩, .inr ⟨_, HPP.out, hJx3⟩⟩
    · obtain rfl : j = xs.length := by omega
      rw [List.take_length] at hJs
      gi_wp2
      go_end0
      exact ⟨⟨_, rfl⟩, .inl hJs⟩
theorem valuesLk_g {w : World} {Bs n₀ B : Nat} {U : List TypeId} {v : Value} {xs : List Lk} (hv : Lks w n₀ v xs) (hn : n₀ ≤ w.heap.size) (h0 : w.heap[Bs]? = some (.cells #[v] 22)) :
    Gives Tryz.prog n₀ B U (.func (.func 134) #[] #[.pointer (some ⟨Bs, 0, none⟩)]) encLk xs w := by
  refine ⟨_, _, rfl, enters_of Tryz.func134 (by kernel_rfl) rfl, fun l J Jx W hW oJ oJx hY hJ => ?_⟩
  have hs := hW.size
  exact valuesLk1_c l Bs n₀ B U v xs J Jx W (hv.below (hW.mono hn)) (by omega) oJ hY ((hW.block _ (size_of_block h0)).trans h0) hJ
theorem valuesLk_c (A : Option Addr) (n cap : Nat) (w : World) :
    Calls Tryz.prog 110 #[.slice A n cap] w fun e w' => e = .returned (.func (.func 134) #[] #[.pointer (some ⟨w.heap.size, 0, none⟩)]) ∧ w' = w.alloc (.cells #[.slice A n cap] 22) := by
  go_enter Tryz.func110, Tryz.ntmps110
  go_wp2
  go_ret
  exact ⟨rfl, rfl⟩
set_option maxRecDepth 100000 in
set_option maxHeartbeats 4000000 in
theorem appendLk_c (things : Value) (n₀ B : Nat) (xs : List Lk) (w : World) (hG : Gives Tryz.prog n₀ B [] things encLk xs w) (hn : n₀ ≤ w.heap.size) (hlen : xs.length ≤ 5000) :
    Calls Tryz.prog 139 #[.slice none 0 0, things] w fun e w' => ∃ v, e = .returned v ∧ w'.ownsRow w.heap.size 90 5 v xs.length (xs.flatMap lkC) ∧ Below w.heap.size w w' := by
  obtain ⟨i0, hi, hz0, hz1, hz2⟩ := info_parts Tryz.infoLk
  have HI := Lib.hid hi
  have HI0 := Lib.hid hz0
  have HI1 := Lib.hid hz1
  have HI2 := Lib.hid hz2
  clear hi hz0 hz1 hz2
  obtain ⟨gf, lb, rfl, hGo⟩ : ∃ gf lb, things = .func (.func gf) #[] lb ∧ True := by obtain ⟨gf, lb, h, _⟩ := hG; exact ⟨gf, lb, h, trivial⟩
  clear hGo
  (refine (callsIn_wide (n := 9)).1 (callsIn_of_wp_marks Tryz.func139 rfl trivial ?_ rfl); simp only [Tryz.ntmps139, List.size_toArray, List.length_cons, List.length_nil, Nat.reduceAdd, Nat.reduceSub, Array.replicate_succ, Array.replicate_zero, List.push_toArray, List.append_toArray, List.nil_append, List.cons_append])
  gi_wp2_with fail
  have b1 : Go.Boxed (w.alloc (.cells #[.slice none 0 0] 22)) w.heap.size 22 (.slice none 0 0) := Go.Boxed.new w _ _
  have a1 := below_alloc w (.cells #[.slice none 0 0] 22)
  have hs1 : (w.alloc (.cells #[.slice none 0 0] 22)).heap.size = w.heap.size + 1 := by simp
  generalize w.alloc (.cells #[.slice none 0 0] 22) = W0 at b1 a1 hs1 ⊢
  have hs0 := a1.size
  have QS := Lib.hid hs1
  clear hs1
  refine wpIn_over (hG.later a1) rfl (fun _ => rfl) (by omega)
    (fun pre W' => (∃ v, Go.Boxed W' w.heap.size 22 v ∧ W'.ownsRow w.heap.size 90 5 v pre.length (pre.flatMap lkC) ∧ True) ∧ Below w.heap.size w W')
    (fun _ _ _ => False)
    ((Own.from (holdsRow_own _ _ _ _ _ _ _ (fun _ _ => True)) _).and (ownFrom_below (Nat.le_refl _) (by omega)))
    (fun _ _ _ _ _ hs _ _ => hs) ⟨⟨_, b1, World.ownsRow_nil _ _ _ _, trivial⟩, a1⟩
    (fun x a' W' => ∃ Bx, w.heap.size + 1 ≤ Bx ∧ W'.heap[Bx]? = some (.cells #[.int .i64 x.id, .int .i64 x.foot, .int .i64 x.hour, .int .i64 x.lo, .int .i64 x.hi] 90) ∧ a' = { tmps := #[.slice none 0 0, .func (.func gf) #[] lb, .pointer (some ⟨w.heap.size, 0, none⟩), undef, .slice none 0 0, .pointer (some ⟨Bx, 0, none⟩), .func (.func gf) #[] lb, lkV x, undef, undef, undef, undef, undef], defers := [] })
    (fun x a' s' X Y row hs hg hrow => by
      obtain ⟨Bx, h1, h2, h3⟩ := hs
      exact ⟨Bx, h1, own_cells (β := Unit) W0.heap.size Bx (fun _ => .cells #[.int .i64 x.id, .int .i64 x.foot, .int .i64 x.hour, .int .i64 x.lo, .int .i64 x.hi] 90) (fun _ => rfl) s' X Y row h2 hg hrow, h3⟩) ?assign ?body ?done ?stop
  case assign =>
    rintro l pre x W' K hl ⟨⟨v, i1, i2, _⟩, i4⟩ hp hK
    unfold encLk
    gi_wp2
    have ha := below_alloc W' (.cells #[.int .i64 x.id, .int .i64 x.foot, .int .i64 x.hour, .int .i64 x.lo, .int .i64 x.hi] 90)
    have hz := i1.lt
    have hsz := i4.size
    refine hK _ _ (keeps_of_below ha) (Kp.of_below ha (by omega)) ⟨⟨v, i1.alloc _, own_later i2 ha, trivial⟩, below_then i4 ha⟩ ⟨W'.heap.size, by omega, heap_alloc_new _ _, rfl⟩
  case done =>
    rintro D W' hD ⟨⟨v, i1, i2, _⟩, i4⟩ hK
    have hc := i1.cell
    gi_wp2_with fail
    refine ⟨by simp, .inl ⟨_, _, rfl, run_takeDeferred hK, ?_⟩⟩
    refine ⟨_, results_tmp rfl _ _ _, _, rfl, ownsRow_putObj i2 _ hK rfl, i4.trans (belowK_b (w := w) (Nat.le_refl _) _ D _ _ (by omega) hK rfl rfl)⟩
  case stop =>
    intro D c pre W' _ _ h _
    exact h.elim
  case body =>
    rintro l pre x a' W' hl hrc ⟨⟨v, i1, i2, _⟩, i4⟩ ⟨Bx, hBx, xB, rfl⟩ hp
    have x0 := Joins.cell_of_block xB 0
    have x1 := Joins.cell_of_block xB 1
    have x2 := Joins.cell_of_block xB 2
    have x3 := Joins.cell_of_block xB 3
    have x4 := Joins.cell_of_block xB 4
    have hc := i1.cell
    have hz := i1.lt
    have hzx := size_of_block xB
    have hpl := Lib.hid (by have := hp.length_le; simp only [List.length_append, List.length_cons, List.length_nil] at this; omega : pre.length + 1 ≤ 5000)
    have hw' := i4.size
    unfold lkV
    gi_wp2_with (gi_at_builtin; refine wpListIn_append_own _ rfl _ _ 22 rfl w.heap.size 90 i0 (.agg #[.int .i64 0, .int .i64 0, .int .i64 0, .int .i64 0, .int .i64 0]) 5 40 Tryz.underlying22 HI.out HI0.out HI1.out HI2.out rfl (by decide) _ _ _ rfl (own_later i2 (below_alloc _ _)) ⟨W'.heap.size, 0, none⟩ 1 1 [.int .i64 x.id, .int .i64 x.foot, .int .i64 x.hour, .int .i64 x.lo, .int .i64 x.hi] rfl rfl ?c1 ?c2 ?c3 ?c4 ?c5 ?_)
    case c1 => have := cells_new W' [.int .i64 x.id, .int .i64 x.foot, .int .i64 x.hour, .int .i64 x.lo, .int .i64 x.hi] 90; simpa using this
    case c2 => intro u hu; simp at hu; rcases hu with rfl | rfl | rfl | rfl | rfl <;> rfl
    case c3 => have := hpl.out; unfold maxLen; omega
    case c4 => have := hpl.out; omega
    case c5 => simp; omega
    intro v' w1 hown' hgrow _
    obtain ⟨g', cap', rfl⟩ := ownsRow_succ hown'
    obtain ⟨hv1, hv2, hr2, hk2, hb2⟩ := Go.Boxed.appended i1 (by decide) i2 hw' (Nat.le_refl _) hown' hgrow
    have hkp := Lib.hid (kp_appended (n₀ := n₀) (B := B) (U := []) i1 (by decide) i2 hw' (Nat.le_refl _) hown' hgrow hn (by simp) (by simp))
    have hc1 := hv1.cell
    have hf1 := hv1.frozen
    have HK2 := Lib.hid hk2
    have HB2 := Lib.hid hb2
    have HR2 := Lib.hid hr2
    clear hk2 hb2 hgrow hown' hr2
    gi_wp2_with fail
    refine ⟨HK2.out.from _, hkp.out, ⟨_, hv2, ?_, trivial⟩, i4.trans HB2.out⟩
    rw [List.length_append, List.flatMap_append]
    simpa [lkC] using HR2.out
theorem collectLk_c (things : Value) (n₀ B : Nat) (xs : List Lk) (w : World) (hG : Gives Tryz.prog n₀ B [] things encLk xs w) (hn : n₀ ≤ w.heap.size) (hlen : xs.length ≤ 5000) :
    Calls Tryz.prog 132 #[things] w fun e w' => ∃ v, e = .returned v ∧ Lks w' w'.heap.size v xs ∧ Below w.heap.size w w' := by
  go_enter Tryz.func132, Tryz.ntmps132
  go_wp2_with fail
  refine (appendLk_c things n₀ B xs w hG hn hlen).mono ?_
  rintro e w1 ⟨v, rfl, hv, hb1⟩
  go_wp2_with fail
  go_ret
  exact ⟨v, rfl, Sl.of_own lkC_len hv (by omega), hb1⟩
end Go.Proofs.YtjpoacffnpgjdaaGreat
/- Contains at ints; what Without leaves out: by the program. -/
namespace Go.Proofs.YtjpoacffnpgjdaaGreat
open Go Go.RowKit Go.Shelf

set_option maxRecDepth 100000 in
theorem indexInts_c (v : Value) (l : List Int) (n : Int) (w : World) (hv : Ints w w.heap.size v l) :
    Calls Tryz.prog 116 #[v, .int .i64 n] w fun e w' => (∃ r : Int, e = .returned (.int .i64 r) ∧ -1 ≤ r ∧ (0 ≤ r ↔ n ∈ l)) ∧ Below w.heap.size w w' := by
  obtain ⟨A, cap, rfl, _, hn, hat⟩ := hv.open_
  have H := Lib.hid hat
  clear hat hv
  go_enter Tryz.func116, Tryz.ntmps116
  go_wp2_with fail
  go_loopw [8] (fun i wr => ∃ j : Nat, j ≤ l.length ∧ i = .int .i64 j ∧ Hid (n ∉ l.take j) ∧ w = wr) (fun i _ => l.length - (intOf i).toNat)
  case atStart => exact ⟨0, Nat.zero_le _, rfl, (by simp : n ∉ l.take 0), rfl⟩
  case round =>
    obtain ⟨j, hj, rfl, hq, rfl⟩ := hrel
    by_cases hlt : j < l.length
    · obtain ⟨b, off, x, rfl, hb0, hx0, c0⟩ := H.out j hlt
      have hx := Lib.hid hx0
      clear hx0
      by_cases hc : n = x
      · have d1 : (n == x) = true := by simpa using hc
        have hy : Hid (n ∈ l) := (by rw [hc]; exact List.mem_of_getElem? hx.out : n ∈ l)
        clear hc
        go_wp2_with fail
        go_ret
        exact ⟨⟨_, rfl, by omega, fun _ => hy.out, fun _ => by omega⟩, Below.refl _ _⟩
      · have d1 : (n == x) = false := by simpa using hc
        have hy : Hid (n ∉ l.take (j + 1)) := (by rw [take_snoc hx.out]; simp only [List.mem_append, List.mem_singleton, not_or]; exact ⟨hq.out, hc⟩ : n ∉ l.take (j + 1))
        clear hc
        go_wp2_with fail
        go_roundw
        case rel => exact ⟨j + 1, by omega, by go_num, hy, trivial⟩
        case measure => simp [intOf]; omega
    · obtain rfl : j = l.length := by omega
      rw [List.take_length] at hq
      go_wp2_with fail
      go_ret
      exact ⟨⟨_, rfl, by omega, fun h => by omega, fun h => absurd h hq.out⟩, Below.refl _ _⟩
theorem containsInts_c (v : Value) (l : List Int) (n : Int) (w : World) (hv : Ints w w.heap.size v l) :
    Calls Tryz.prog 71 #[v, .int .i64 n] w fun e w' => e = .returned (.bool (l.contains n)) ∧ Below w.heap.size w w' := by
  have HC := indexInts_c v l n w hv
  obtain ⟨A, cap, rfl⟩ := hv.form
  clear hv
  go_enter Tryz.func71, Tryz.ntmps71
  go_wp2_with fail
  refine HC.mono ?_
  rintro e w1 ⟨⟨r, rfl, h1, h2⟩, hb⟩
  have hd : decide (r ≥ 0) = l.contains n := by
    rw [Bool.eq_iff_iff]; simp only [decide_eq_true_eq, List.contains_iff_mem]; exact h2
  clear h2
  go_wp2_with fail
  go_ret
  exact ⟨ret_bool (by simp), hb⟩
theorem without1_c (x : Lk) (vi : Value) (ids : List Int) (Bi : Nat) (w : World) (h : w.heap[Bi]? = some (.cells #[vi] 27)) (hv : Ints w w.heap.size vi ids) :
    Calls Tryz.prog 70 #[lkV x, .pointer (some ⟨Bi, 0, none⟩)] w fun e w' => e = .returned (.bool (ids.contains x.id)) ∧ Below w.heap.size w w' := by
  have aw := below_alloc w (.cells #[.int .i64 x.id, .int .i64 x.foot, .int .i64 x.hour, .int .i64 x.lo, .int .i64 x.hi] 90)
  have h2 := (aw.block _ (size_of_block h)).trans h
  have c0 := Joins.cell_of_block h2 0
  have hC := containsInts_c vi ids x.id _ (hv.later aw)
  generalize ids.contains x.id = r at hC ⊢
  unfold lkV
  go_enter Tryz.func70, Tryz.ntmps70
  go_wp2_with fail
  refine hC.mono ?_
  rintro e w1 ⟨rfl, hb⟩
  go_wp2_with fail
  go_ret
  exact ⟨rfl, below_then aw hb⟩
end Go.Proofs.YtjpoacffnpgjdaaGreat
