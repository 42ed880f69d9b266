/- Texts joined: FProgDel. -/
import Derived.Test.YtjpoacffnpgjdaaGreatJ25
import Derived.Test.YtjpoacffnpgjdaaGreatJ28
import Derived.Laws.CopyOwn
/- DeleteFunc at looks: by the program. -/
namespace Go.Proofs.YtjpoacffnpgjdaaGreat
open Go Go.RowKit Go.Shelf

theorem lk_row {w : World} {g : Nat} {t : TypeId} {l : List Lk} (h : RowAt lkC 5 w g t l) {j : Nat} {x : Lk} (hx : l[j]? = some x) :
    w.cell? ⟨g, j * 5, none⟩ = some (.int .i64 x.id) ∧ w.cell? ⟨g, j * 5 + 1, none⟩ = some (.int .i64 x.foot) ∧ w.cell? ⟨g, j * 5 + 2, none⟩ = some (.int .i64 x.hour) ∧ w.cell? ⟨g, j * 5 + 3, none⟩ = some (.int .i64 x.lo) ∧ w.cell? ⟨g, j * 5 + 4, none⟩ = some (.int .i64 x.hi) :=
  ⟨h.cell lkC_len hx (j := 0) rfl, h.cell lkC_len hx (j := 1) rfl, h.cell lkC_len hx (j := 2) rfl, h.cell lkC_len hx (j := 3) rfl, h.cell lkC_len hx (j := 4) rfl⟩
set_option maxRecDepth 100000 in
set_option maxHeartbeats 2000000 in
theorem indexLk_c (g cap : Nat) (l : List Lk) (B : Lk → Bool) (gf : Nat) (y : Value) (w0 w : World) (h : RowAt lkC 5 w g 90 l) (hlen : l.length ≤ 5000) (hb : Below w0.heap.size w0 w)
    (he : ∀ args w, (callFunc gf args).run Tryz.prog w = .ok (.enter gf args) w) (hP : ∀ x W, Below w0.heap.size w0 W → Calls Tryz.prog gf #[lkV x, y] W fun e W' => e = .returned (.bool (B x)) ∧ Below W.heap.size W W') :
    Calls Tryz.prog 115 #[.slice (some ⟨g, 0, none⟩) l.length cap, .func (.func gf) #[] #[y]] w fun e w' => (∃ r : Int, e = .returned (.int .i64 r) ∧ ((r = -1 ∧ ∀ x ∈ l, B x = false) ∨ ∃ k : Nat, r = k ∧ k < l.length ∧ (∀ x ∈ l.take k, B x = false) ∧ ∃ x, l[k]? = some x ∧ B x = true)) ∧ Below w.heap.size w w' := by
  have HR := Lib.hid h
  have HB := Lib.hid hb
  clear h
  unfold lkV at hP
  go_enter Tryz.func115, Tryz.ntmps115
  go_wp2_with fail
  go_loopw [8] (fun i wr => ∃ j : Nat, j ≤ l.length ∧ i = .int .i64 j ∧ Hid (∀ x ∈ l.take j, B x = false) ∧ Below w.heap.size w wr) (fun i _ => l.length - (intOf i).toNat)
  case atStart => exact ⟨0, Nat.zero_le _, rfl, (by simp : ∀ x ∈ l.take 0, B x = false), Below.refl _ _⟩
  case round =>
    obtain ⟨j, hj, rfl, hq, hbw⟩ := hrel
    by_cases hlt : j < l.length
    · obtain ⟨x, hx0⟩ : ∃ x, l[j]? = some x := ⟨_, List.getElem?_eq_getElem hlt⟩
      obtain ⟨d0, d1, d2, d3, d4⟩ := lk_row (HR.out.later hbw) hx0
      have hzg : g < wr.heap.size := by obtain ⟨_, h1, _⟩ := (HR.out.later hbw); exact size_of_block h1
      have hx := Lib.hid hx0
      have hc := hP x wr (below_then HB.out hbw)
      clear hx0
      cases hB : B x with
      | true =>
        rw [hB] at hc
        have HX := Lib.hid hB
        clear hB
        go_wp2_with fail
        refine hc.mono ?_
        rintro e w1 ⟨rfl, hb1⟩
        have B1 := below_then hbw hb1
        clear hc hb1 hbw d0 d1 d2 d3 d4
        go_wp2_with fail
        go_ret
        exact ⟨⟨_, rfl, .inr ⟨j, rfl, hlt, hq.out, x, hx.out, HX.out⟩⟩, B1⟩
      | false =>
        rw [hB] at hc
        have hy : Hid (∀ u ∈ l.take (j + 1), B u = false) := by
          show ∀ u ∈ l.take (j + 1), B u = false
          rw [take_snoc hx.out]
          intro u hu
          rcases List.mem_append.1 hu with hu | hu
          · exact hq.out u hu
          · rw [List.mem_singleton.1 hu]; exact hB
        clear hB
        go_wp2_with fail
        refine hc.mono ?_
        rintro e w1 ⟨rfl, hb1⟩
        have B1 := below_then hbw hb1
        clear hc hb1 hbw d0 d1 d2 d3 d4
        go_wp2_with fail
        go_roundw
        case rel => exact ⟨j + 1, by omega, by go_num, hy, B1⟩
        case measure => simp [intOf]; omega
    · obtain rfl : j = l.length := by omega
      rw [List.take_length] at hq
      go_wp2_with fail
      go_ret
      exact ⟨⟨_, rfl, .inl ⟨rfl, hq.out⟩⟩, hbw⟩
theorem indexNil_c (A : Option Addr) (cap : Nat) (f : Value) (w : World) :
    Calls Tryz.prog 115 #[.slice A 0 cap, f] w fun e w' => e = .returned (.int .i64 (-1)) ∧ w' = w := by
  go_enter Tryz.func115, Tryz.ntmps115
  go_wp2_with fail
  go_loopw [8] (fun i wr => i = .int .i64 0 ∧ wr = w) (fun _ _ => 0)
  case atStart => exact ⟨rfl, rfl⟩
  case round =>
    obtain ⟨rfl, rfl⟩ := hrel
    go_wp2_with fail
    go_ret
    exact ⟨rfl, rfl⟩
theorem deleteNil_c (A : Option Addr) (cap : Nat) (f : Value) (w : World) :
    Calls Tryz.prog 68 #[.slice A 0 cap, f] w fun e w' => e = .returned (.slice A 0 cap) ∧ w' = w := by
  have h := indexNil_c A cap f w
  go_enter Tryz.func68, Tryz.ntmps68
  go_wp2_with fail
  refine h.mono ?_
  rintro e w1 ⟨rfl, rfl⟩
  go_wp2_with fail
  go_ret
  exact ⟨rfl, rfl⟩
/-- How far the row is gone through: what is kept stands in front, what is left stands behind. -/
structure DInv (B : Lk → Bool) (l dk : List Lk) (i j : Nat) : Prop where
  len : dk.length = l.length
  lt : i < j
  pre : dk.take i = (l.take j).filter fun x => !B x
  post : dk.drop j = l.drop j
theorem DInv.start {B : Lk → Bool} {l : List Lk} {k : Nat} {x : Lk} (h : ∀ u ∈ l.take k, B u = false) (hx : l[k]? = some x) (hb : B x = true) : DInv B l l k (k + 1) := by
  refine ⟨rfl, Nat.lt_succ_self _, ?_, rfl⟩
  rw [take_snoc hx, List.filter_append]
  have e : (l.take k).filter (fun x => !B x) = l.take k := List.filter_eq_self.2 fun u hu => by rw [h u hu]; rfl
  rw [e]
  simp [hb]
theorem DInv.at_ {B : Lk → Bool} {l dk : List Lk} {i j : Nat} (h : DInv B l dk i j) {x : Lk} (hx : l[j]? = some x) : dk[j]? = some x := by
  have : (dk.drop j)[0]? = (l.drop j)[0]? := by rw [h.post]
  simpa [List.getElem?_drop, hx] using this
theorem DInv.keep {B : Lk → Bool} {l dk : List Lk} {i j : Nat} (h : DInv B l dk i j) {x : Lk} (hx : l[j]? = some x) (hb : B x = false) : DInv B l (dk.set i x) (i + 1) (j + 1) := by
  have hj := (List.getElem?_eq_some_iff.1 hx).1
  have h1 := h.lt
  refine ⟨by rw [List.length_set]; exact h.len, by omega, ?_, ?_⟩
  · rw [set_take x (by rw [h.len]; omega), h.pre, take_snoc hx, List.filter_append]
    simp [hb]
  · rw [List.drop_set_of_lt (by omega), ← List.drop_drop, h.post, List.drop_drop]
theorem DInv.skip {B : Lk → Bool} {l dk : List Lk} {i j : Nat} (h : DInv B l dk i j) {x : Lk} (hx : l[j]? = some x) (hb : B x = true) : DInv B l dk i (j + 1) := by
  have h1 := h.lt
  refine ⟨h.len, by omega, ?_, ?_⟩
  · rw [h.pre, take_snoc hx, List.filter_append]
    simp [hb]
  · rw [← List.drop_drop, h.post, List.drop_drop]
theorem DInv.done {B : Lk → Bool} {l dk : List Lk} {i : Nat} (h : DInv B l dk i l.length) : dk.take i = (l.filter fun x => !B x) ∧ i = (l.filter fun x => !B x).length := by
  have e := h.pre
  rw [List.take_length] at e
  refine ⟨e, ?_⟩
  rw [← e, List.length_take, h.len]
  have := h.lt
  omega
theorem Tryz.zeroLookD (w : World) : (zeroValue 90).run Tryz.prog w = .ok (.agg #[.int .i64 0, .int .i64 0, .int .i64 0, .int .i64 0, .int .i64 0]) w := by kernel_rfl
set_option maxRecDepth 100000 in
set_option maxHeartbeats 4000000 in
theorem deleteLk_c (g cap : Nat) (l : List Lk) (B : Lk → Bool) (gf : Nat) (y : Value) (w0 w : World) (h : RowAt lkC 5 w g 90 l) (hcap : l.length ≤ cap) (hlen : l.length ≤ 5000) (hb : Below w0.heap.size w0 w) (hg : w0.heap.size ≤ g)
    (he : ∀ args w, (callFunc gf args).run Tryz.prog w = .ok (.enter gf args) w) (hP : ∀ x W, Below w0.heap.size w0 W → Calls Tryz.prog gf #[lkV x, y] W fun e W' => e = .returned (.bool (B x)) ∧ Below W.heap.size W W') :
    Calls Tryz.prog 68 #[.slice (some ⟨g, 0, none⟩) l.length cap, .func (.func gf) #[] #[y]] w fun e w' => e = .returned (.slice (some ⟨g, 0, none⟩) (l.filter fun x => !B x).length cap) ∧ RowAt lkC 5 w' g 90 (l.filter fun x => !B x) ∧ Below w0.heap.size w0 w' := by
  have HI := indexLk_c g cap l B gf y w0 w h hlen hb he hP
  have HR := Lib.hid h
  have HPP := Lib.hid hP
  clear h hP
  go_enter Tryz.func68, Tryz.ntmps68
  go_wp2_with fail
  refine HI.mono ?_
  rintro e w1 ⟨⟨r, rfl, hr⟩, hb1⟩
  have B1 := below_then hb hb1
  have R1 := Lib.hid (HR.out.later hb1)
  clear HI hb hb1 HR
  rcases hr with ⟨rfl, hall⟩ | ⟨k, rfl, hk, hpre, x, hx, hbx⟩
  · have e : Hid ((l.filter fun x => !B x) = l) := List.filter_eq_self.2 fun u hu => by rw [hall u hu]; rfl
    clear hall
    go_wp2_with fail
    go_ret
    rw [e.out]
    exact ⟨rfl, R1.out, B1⟩
  · have I0 := Lib.hid (DInv.start hpre hx hbx)
    clear hpre hx hbx
    have d1 : ((k : Int) == -1) = false := beq_eq_false_iff_ne.2 (by omega)
    go_wp2_with fail
    go_loopw [5, 6] (fun s5 s6 wr => ∃ (i j : Nat) (dk : List Lk), j ≤ l.length ∧ s5 = .int .i64 i ∧ s6 = .int .i64 j ∧ Hid (DInv B l dk i j) ∧ Hid (RowAt lkC 5 wr g 90 dk) ∧ Below w0.heap.size w0 wr) (fun _ s6 _ => l.length - (intOf s6).toNat)
    case atStart => exact ⟨k, k + 1, l, by omega, rfl, by go_num, I0, R1, B1⟩
    case round =>
      obtain ⟨i, j, dk, hj, rfl, rfl, hI, hR, hbw⟩ := hrel
      have hij := hI.out.lt
      by_cases hlt : j < l.length
      · obtain ⟨x, hx0⟩ : ∃ x, l[j]? = some x := ⟨_, List.getElem?_eq_getElem hlt⟩
        obtain ⟨c0, c1, c2, c3, c4⟩ := lk_row hR.out (hI.out.at_ hx0)
        have hzg : g < wr.heap.size := by obtain ⟨_, h1, _⟩ := hR.out; exact size_of_block h1
        have hx := Lib.hid hx0
        clear hx0
        obtain ⟨W2, hW2⟩ : ∃ W2, W2 = wr.alloc (.cells #[.int .i64 x.id, .int .i64 x.foot, .int .i64 x.hour, .int .i64 x.lo, .int .i64 x.hi] 90) := ⟨_, rfl⟩
        have b2 : Below wr.heap.size wr W2 := by rw [hW2]; exact below_alloc _ _
        have e2 : W2.heap[wr.heap.size]? = some (.cells #[.int .i64 x.id, .int .i64 x.foot, .int .i64 x.hour, .int .i64 x.lo, .int .i64 x.hi] 90) := by rw [hW2]; exact heap_alloc_new _ _
        have HW2 := Lib.hid hW2
        clear hW2
        have g0 := Joins.cell_of_block e2 0
        have g1 := Joins.cell_of_block e2 1
        have g2 := Joins.cell_of_block e2 2
        have g3 := Joins.cell_of_block e2 3
        have g4 := Joins.cell_of_block e2 4
        have B2 := below_then hbw b2
        have hc := HPP.out x W2 B2
        have R2 := Lib.hid (hR.out.later b2)
        have z2 := size_of_block e2
        have n2 := b2.size
        unfold lkV at hc
        clear hR hbw b2
        cases hB : B x with
        | true =>
          rw [hB] at hc
          have hy := Lib.hid (hI.out.skip hx.out hB)
          clear hB hI hx
          go_wp2_with fail
          rw [← HW2.out]
          refine hc.mono ?_
          rintro e W3 ⟨rfl, hb3⟩
          have R3 := Lib.hid (R2.out.later hb3)
          have B3 := below_then B2 hb3
          clear hc hb3 c0 c1 c2 c3 c4 g0 g1 g2 g3 g4 R2 B2
          go_wp2_with fail
          go_roundw
          case rel => exact ⟨i, j + 1, dk, by omega, rfl, by go_num, hy, R3, B3⟩
          case measure => simp [intOf]; omega
        | false =>
          rw [hB] at hc
          have hy := Lib.hid (hI.out.keep hx.out hB)
          have hdl := hI.out.len
          clear hB hI hx
          go_wp2_with fail
          rw [← HW2.out]
          refine hc.mono ?_
          rintro e W3 ⟨rfl, hb3⟩
          have e3 := (hb3.block _ z2).trans e2
          have g0 := Joins.cell_of_block e3 0
          have g1 := Joins.cell_of_block e3 1
          have g2 := Joins.cell_of_block e3 2
          have g3 := Joins.cell_of_block e3 3
          have g4 := Joins.cell_of_block e3 4
          obtain ⟨cur, k1, k2, k3⟩ := R2.out.later hb3
          have B3 := below_then B2 hb3
          have RS := Lib.hid (RowAt.set lkC_len k1 k2 k3 (i := i) (by omega) x)
          have B4 := below_setRow B3 hg (partTo cur (i * 5) (lkC x))
          have z3 := size_of_block k1
          have z4 := size_of_block e3
          have hi5 : i * 5 + 5 ≤ cur.size := by omega
          clear hc hb3 c0 c1 c2 c3 c4 R2 B2 k2 k3 B3
          go_wp2_with (refine wpList_store_part rfl 90 _ _ rfl rfl g (i * 5) #[.int .i64 x.id, .int .i64 x.foot, .int .i64 x.hour, .int .i64 x.lo, .int .i64 x.hi] rfl rfl 90 cur k1 (by kernel_rfl) hi5 (by kernel_rfl) ?_)
          go_roundw
          case rel => exact ⟨i + 1, j + 1, _, by omega, by go_num, by go_num, hy, RS, B4⟩
          case measure => simp [intOf]; omega
      · obtain rfl : j = l.length := by omega
        obtain ⟨cur, k1, k2, k3⟩ := hR.out
        have hdl := hI.out.len
        have hdn := Lib.hid hI.out.done
        obtain ⟨vs, hvs, hcl⟩ := run_clear_part (P := Tryz.prog) wr 22 90 0 _ Tryz.underlying22 Tryz.zeroLookD 5 rfl (by intro v hv; simp [Value.cells] at hv; rcases hv with rfl | rfl | rfl | rfl | rfl <;> rfl) (by omega) g (i * 5) (l.length - i) (cap - i) (by omega) 90 cur k1 (by omega)
        have hij2 : i ≤ l.length := by omega
        have hcap2 : l.length ≤ cap := hcap
        clear hR
        go_wp2_with fail
        go_ret
        have hfl : (dk.take i).length = (l.filter fun x => !B x).length := by rw [hdn.out.1]
        rw [List.length_take, hdl, Nat.min_eq_left hij2] at hfl
        rw [← hfl]
        have hfr : RowAt lkC 5 wr g 90 (dk.take i) := RowAt.front ⟨cur, k1, k2, k3⟩ lkC_len i
        rw [← hdn.out.1]
        have hlt : (dk.take i).length = i := by rw [List.length_take, hdl]; omega
        obtain ⟨cur2, m1, m2, m3⟩ := hfr
        obtain rfl : cur2 = cur := by rw [k1] at m1; cases m1; rfl
        exact ⟨rfl, RowAt.part k1 m2 m3 (by rw [hlt]; exact Nat.le_refl _) (by omega), below_setRow hbw hg _⟩
end Go.Proofs.YtjpoacffnpgjdaaGreat
