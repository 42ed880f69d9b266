/- Bins: a step, and the batch behind it. -/
import Derived.Test.YtaaeipjnhjgjdaaJ12
import Derived.Test.YtaaeipjnhjgjdaaZ3MathF
import Derived.Test.YtaaeipjnhjgjdaaZ3BinE
namespace Go.Proofs.Ytaaeipjnhjgjdaa
open Go Go.RowKit

open Go.Deep
theorem Try.infoBt : (Try.prog.info? 34).map (fun i => (i.zero, i.size, i.bytes)) = some (some (.agg #[.int .i64 0, .int .i64 0, .int .i64 0, .int .i64 0, .int .i64 0, .int .i64 0, .int .i64 0, .int .i64 0, .int .i64 0, .int .i64 0]), 10, 80) := by kernel_rfl
/-- A row of its own stays where a bin and a row of another block are written. -/
theorem own_frame {w w' : World} {g base n sz : Nat} {row : Option Nat} {e : TypeId} {v : Value} {xs : List Value} (h : w.ownsRow base e sz v n xs) (hf : FrameB w w' g row) (h1 : v.ownBlock ≠ some g) (h2 : ∀ k, v.ownBlock = some k → row ≠ some k) : w'.ownsRow base e sz v n xs := by
  refine ⟨h.1, ?_⟩
  rcases h.2 with h0 | ⟨gd, cap, cur, rfl, hb, hc, rest⟩
  · exact .inl h0
  · exact .inr ⟨gd, cap, cur, rfl, hb, (hf.block gd (size_of_block hc) (fun e => h1 (by rw [Value.ownBlock, e])) (h2 gd rfl)).trans hc, rest⟩
/-- .. and where only the blocks above all that is there are written. -/
theorem own_below {w w' : World} {base n sz : Nat} {e : TypeId} {v : Value} {xs : List Value} (h : w.ownsRow base e sz v n xs) (hf : Below w.heap.size w w') : w'.ownsRow base e sz v n xs := by
  refine ⟨h.1, ?_⟩
  rcases h.2 with h0 | ⟨gd, cap, cur, rfl, hb, hc, rest⟩
  · exact .inl h0
  · exact .inr ⟨gd, cap, cur, rfl, hb, (hf.block gd (size_of_block hc)).trans hc, rest⟩
theorem own_cap {w : World} {base n sz cap : Nat} {e : TypeId} {A : Option Addr} {xs : List Value} (h : w.ownsRow base e sz (.slice A n cap) n xs) : n ≤ cap ∧ cap ≤ maxLen := by
  rcases h.2 with ⟨h1, h2⟩ | ⟨gd, cap', cur, h1, _, _, h2, h3, _⟩
  · cases h1; exact ⟨by omega, by omega⟩
  · cases h1; exact ⟨h2, h3⟩
/-- Where a row of its own lies, its cells. -/
theorem own_reads {α : Type} {c : α → List Value} {s : Nat} (hc : ∀ x, (c x).length = s) {w : World} {base : Nat} {e : TypeId} {b off : Nat} {n cap : Nat} {l : List α} (h : w.ownsRow base e s (.slice (some ⟨b, off, none⟩) n cap) n (l.flatMap c)) (hn : n = l.length) (hl : n ≤ 140737488355328) {i : Nat} {x : α} (hx : l[i]? = some x) : b < w.heap.size ∧ ∀ (j : Nat) u, (c x)[j]? = some u → w.cell? ⟨b, off + i * s + j, none⟩ = some u := by
  subst hn
  obtain ⟨A, cap', e', _, _, h3⟩ := Sl.of_own hc h hl
  simp only [Value.slice.injEq] at e'
  obtain ⟨rfl, -, -⟩ := e'
  obtain ⟨b', off', e2, hb, hk⟩ := h3 (by have := (List.getElem?_eq_some_iff.1 hx).1; omega)
  simp only [Option.some.injEq, Addr.mk.injEq] at e2
  obtain ⟨rfl, rfl, -⟩ := e2
  exact ⟨hb, fun j u hu => hk i x hx j u hu⟩
/-- The cut of a row of its own. -/
theorem own_cut {α : Type} {c : α → List Value} {s : Nat} (hc : ∀ x, (c x).length = s) {w : World} {base : Nat} {e : TypeId} {v : Value} {l : List α} (h : w.ownsRow base e s v l.length (l.flatMap c)) (k : Nat) (hk : k ≤ l.length) (hk0 : 0 < l.length) : ∃ A cap, v = .slice A l.length cap ∧ w.ownsRow base e s (.slice A k cap) k ((l.take k).flatMap c) ∧ (Value.slice A k cap).ownBlock = v.ownBlock := by
  rcases h.2 with ⟨_, h0⟩ | ⟨gd, cap, cur, rfl, hgd, hcur, hcap, hmax, hsz, htk⟩
  · omega
  · refine ⟨some ⟨gd, 0, none⟩, cap, rfl, ⟨?_, .inr ⟨gd, cap, cur, rfl, hgd, hcur, by omega, hmax, hsz, ?_⟩⟩, rfl⟩
    · rw [flat_length hc, List.length_take, Nat.min_eq_left hk]
    · have h1 : k * s ≤ l.length * s := Nat.mul_le_mul_right s hk
      rw [← Nat.min_eq_left h1, ← List.take_take, htk]
      conv => lhs; rw [← List.take_append_drop k l, List.flatMap_append]
      rw [List.take_left']
      rw [flat_length hc, List.length_take, Nat.min_eq_left hk]
attribute [local go_sem] Rel RelAt RelUpon
set_option maxHeartbeats 3200000 in
set_option maxRecDepth 100000 in
theorem SampleBins_w (S : Sam) (b : Bt) (v : Value) (l : List (Bool × K3)) (w : World) (hv : Sl stepC 4 w w.heap.size v l) : Calls Try.prog 7 #[btV b, v] w fun e w' => e = .returned (.bool true) ∧ Below w.heap.size w w' := by
  obtain ⟨A, cap, rfl⟩ := hv.form
  have hL : l.length ≤ 140737488355328 := by obtain ⟨_, _, _, _, h, _⟩ := hv; exact h
  have HV := Lib.hid hv
  clear hv
  have p1 := fun w => New_c b w
  have p2 := fun w => Check3_c b w
  have P1 := Lib.hid p1
  have P2 := Lib.hid p2
  clear p1 p2
  unfold btV at P1 P2 ⊢
  go_enter Try.func7, Try.ntmps7
  go_wp2_with fail
  refine (head_c S _).mono ?_
  rintro e w1 ⟨he, hb1⟩
  subst he
  have hF1 : Below w.heap.size w w1 := below_then (below_alloc _ _) hb1
  have zb1 : w.heap.size < w1.heap.size := by have := hb1.size; simp only [World.size_alloc] at this; omega
  have bb1 : w1.heap[w.heap.size]? = some (.cells #[.int .i64 b.n, .int .i64 b.s.a, .int .i64 b.s.b, .int .i64 b.s.c, .int .i64 b.k0.lo, .int .i64 b.k0.hi, .int .i64 b.k1.lo, .int .i64 b.k1.hi, .int .i64 b.k2.lo, .int .i64 b.k2.hi] 34) := (hb1.block w.heap.size (by simp)).trans (heap_alloc_new w _)
  clear hb1
  by_cases h60 : 60 < l.length
  · have d60 : decide ((60 : Int) < (l.length : Int)) = true := by simp; omega
    go_wp2_with fail
    go_ret
    exact ⟨rfl, hF1⟩
  have d60 : decide ((60 : Int) < (l.length : Int)) = false := by simp; omega
  have c1_0 := Joins.cell_of_block bb1 0
  have c1_1 := Joins.cell_of_block bb1 1
  have c1_2 := Joins.cell_of_block bb1 2
  have c1_3 := Joins.cell_of_block bb1 3
  have c1_4 := Joins.cell_of_block bb1 4
  have c1_5 := Joins.cell_of_block bb1 5
  have c1_6 := Joins.cell_of_block bb1 6
  have c1_7 := Joins.cell_of_block bb1 7
  have c1_8 := Joins.cell_of_block bb1 8
  have c1_9 := Joins.cell_of_block bb1 9
  go_wp2_with fail
  refine (P1.out _).mono ?_
  clear c1_0 c1_1 c1_2 c1_3 c1_4 c1_5 c1_6 c1_7 c1_8 c1_9
  rintro e w2 h
  rcases h with ⟨hc, rfl, hb2⟩ | ⟨hc, g, hg, rfl, hbin, hb2, hg2⟩
  · have bb2 := (hb2.block w.heap.size zb1).trans bb1
    have hF2 := below_then hF1 hb2
    have zb2 := size_of_block bb2
    have c2_0 := Joins.cell_of_block bb2 0
    have c2_1 := Joins.cell_of_block bb2 1
    have c2_2 := Joins.cell_of_block bb2 2
    have c2_3 := Joins.cell_of_block bb2 3
    have c2_4 := Joins.cell_of_block bb2 4
    have c2_5 := Joins.cell_of_block bb2 5
    have c2_6 := Joins.cell_of_block bb2 6
    have c2_7 := Joins.cell_of_block bb2 7
    have c2_8 := Joins.cell_of_block bb2 8
    have c2_9 := Joins.cell_of_block bb2 9
    have d1 : (checkB b == 0) = false := by simpa using hc
    have d2 : (checkB b != 0) = true := by simpa using hc
    have d3 : (checkB b != checkB b) = false := by simp
    go_wp2_with fail
    refine (P2.out _).mono ?_
    rintro e w3 ⟨rfl, hb3⟩
    have hF3 := below_then hF2 hb3
    go_wp2_with fail
    go_ret
    exact ⟨rfl, hF3⟩
  have bb2 := (hb2.block w.heap.size zb1).trans bb1
  have hF2 := below_then hF1 hb2
  have zb2 := size_of_block bb2
  have c2_0 := Joins.cell_of_block bb2 0
  have c2_1 := Joins.cell_of_block bb2 1
  have c2_2 := Joins.cell_of_block bb2 2
  have c2_3 := Joins.cell_of_block bb2 3
  have c2_4 := Joins.cell_of_block bb2 4
  have c2_5 := Joins.cell_of_block bb2 5
  have c2_6 := Joins.cell_of_block bb2 6
  have c2_7 := Joins.cell_of_block bb2 7
  have c2_8 := Joins.cell_of_block bb2 8
  have c2_9 := Joins.cell_of_block bb2 9
  rw [hc] at P2
  go_wp2_with fail
  refine (P2.out _).mono ?_
  rintro e w3 ⟨rfl, hb3⟩
  clear c2_0 c2_1 c2_2 c2_3 c2_4 c2_5 c2_6 c2_7 c2_8 c2_9
  have bb3 := (hb3.block w.heap.size zb2).trans bb2
  have hF3 := below_then hF2 hb3
  have zb3 := size_of_block bb3
  have hbin3 : BinIs w3 g b (.slice none 0 0) := (hb3.block g hg2).trans hbin
  have zg3 := size_of_block hbin3
  clear hbin hb3
  have HB := Lib.hid hbin3
  clear hbin3
  have c3_0 := Joins.cell_of_block bb3 0
  have c3_1 := Joins.cell_of_block bb3 1
  have c3_2 := Joins.cell_of_block bb3 2
  have c3_3 := Joins.cell_of_block bb3 3
  have c3_4 := Joins.cell_of_block bb3 4
  have c3_5 := Joins.cell_of_block bb3 5
  have c3_6 := Joins.cell_of_block bb3 6
  have c3_7 := Joins.cell_of_block bb3 7
  have c3_8 := Joins.cell_of_block bb3 8
  have c3_9 := Joins.cell_of_block bb3 9
  go_wp2_with fail
  have hown : (w3.alloc (.cells #[.int .i64 b.n, .int .i64 b.s.a, .int .i64 b.s.b, .int .i64 b.s.c, .int .i64 b.k0.lo, .int .i64 b.k0.hi, .int .i64 b.k1.lo, .int .i64 b.k1.hi, .int .i64 b.k2.lo, .int .i64 b.k2.hi] 34)).ownsRow (g + 1) 34 10 (.slice (some ⟨w3.heap.size, 0, none⟩) 1 1) (binL b []).length ((binL b []).flatMap btL) := by
    rw [binL_nil]
    refine ⟨rfl, .inr ⟨w3.heap.size, 1, _, rfl, by omega, heap_alloc_new w3 _, by simp, by simp [maxLen], by simp, ?_⟩⟩
    simp [btL]
  have hbin4 : BinIs (w3.alloc (.cells #[.int .i64 b.n, .int .i64 b.s.a, .int .i64 b.s.b, .int .i64 b.s.c, .int .i64 b.k0.lo, .int .i64 b.k0.hi, .int .i64 b.k1.lo, .int .i64 b.k1.hi, .int .i64 b.k2.lo, .int .i64 b.k2.hi] 34)) g b (.slice none 0 0) := (Below.heap_alloc _ _ _ zg3).trans HB.out
  have hF4 := hF3.trans ((below_alloc w3 (.cells #[.int .i64 b.n, .int .i64 b.s.a, .int .i64 b.s.b, .int .i64 b.s.c, .int .i64 b.k0.lo, .int .i64 b.k0.hi, .int .i64 b.k1.lo, .int .i64 b.k1.hi, .int .i64 b.k2.lo, .int .i64 b.k2.hi] 34)).mono (Nat.le_of_lt zb3))
  obtain ⟨w4, hw4⟩ : ∃ w4, w4 = w3.alloc (.cells #[.int .i64 b.n, .int .i64 b.s.a, .int .i64 b.s.b, .int .i64 b.s.c, .int .i64 b.k0.lo, .int .i64 b.k0.hi, .int .i64 b.k1.lo, .int .i64 b.k1.hi, .int .i64 b.k2.lo, .int .i64 b.k2.hi] 34) := ⟨_, rfl⟩
  rw [← hw4] at hown hbin4 hF4 ⊢
  have hgw : w.heap.size < g := by omega
  have HV4 := Lib.hid (HV.out.below hF4)
  clear c3_0 c3_1 c3_2 c3_3 c3_4 c3_5 c3_6 c3_7 c3_8 c3_9
  clear hw4 hF1 hF2 hF3 bb1 bb2 bb3 zb1 zb2 zb3 zg3 hb2 HB
  go_loopw [8, 9] (fun lv i wr => ∃ (j : Nat) (D : List K3) (vd : Value), j ≤ l.length ∧ i = .int .i64 j ∧ wr.ownsRow (g + 1) 34 10 lv (D.length + 1) ((binL b D).flatMap btL) ∧ BinIs wr g b vd ∧ wr.ownsRow (g + 1) 23 3 vd D.length (D.flatMap k3C) ∧ okBin b D ∧ (∀ x ∈ D, 0 ≤ x.a ∧ 0 ≤ x.b ∧ 0 ≤ x.c) ∧ D.length ≤ 40 ∧ Below (w.heap.size + 1) w4 wr) (fun _ i _ => l.length - (intOf i).toNat)
  case atStart => exact ⟨0, [], .slice none 0 0, by omega, rfl, hown, hbin4, World.ownsRow_nil _ _ _ _, okBin_nil hc, by simp, by simp, Below.refl _ _⟩
  case round =>
    obtain ⟨j, D, vd, hj, rfl, hol, hbr, hod, ok, hpos, h40, hBr⟩ := hrel
    obtain ⟨A2, cap2, rfl⟩ := own_form hol
    have hoS : Sl btL 10 wr wr.heap.size (.slice A2 (D.length + 1) cap2) (binL b D) := Sl.of_own btL_len (by rw [binL_len]; exact hol) (by rw [binL_len]; omega)
    have HOL := Lib.hid hol
    have HBR := Lib.hid hbr
    have HOD := Lib.hid hod
    by_cases hlt : j < l.length
    · have dlt : decide ((j : Int) < (l.length : Int)) = true := decide_eq_true (by omega)
      obtain ⟨A', cap', e', _, _, h3⟩ := HV4.out.below (hBr.mono (Nat.le_succ _))
      cases e'
      obtain ⟨sb, so, rfl, hsb, hsc⟩ := h3 (by omega)
      obtain ⟨⟨up, s⟩, hst⟩ : ∃ st, l[j]? = some st := ⟨l[j], List.getElem?_eq_getElem hlt⟩
      have s0 : wr.cell? ⟨sb, so + j * 4, none⟩ = some (.bool up) := hsc j _ hst 0 _ rfl
      have s1 : wr.cell? ⟨sb, so + j * 4 + 1, none⟩ = some (.int .i64 s.a) := hsc j _ hst 1 _ rfl
      have s2 : wr.cell? ⟨sb, so + j * 4 + 2, none⟩ = some (.int .i64 s.b) := hsc j _ hst 2 _ rfl
      have s3 : wr.cell? ⟨sb, so + j * 4 + 3, none⟩ = some (.int .i64 s.c) := hsc j _ hst 3 _ rfl
      clear h3 hsc
      obtain ⟨A5, cap5, e', _, _, h3⟩ := hoS
      simp only [Value.slice.injEq] at e'
      obtain ⟨rfl, -, rfl⟩ := e'
      obtain ⟨lb, lo, rfl, hlb, hlc⟩ := h3 (by rw [binL_len]; omega)
      cases up with
      | true =>
        by_cases h0 : D.length = 0
        · have dl : (((D.length + 1 : Nat) : Int) == 1) = true := by rw [h0]; rfl
          go_wp2_with fail
          refine (Back_c b D g (g + 1) vd _ HBR.out HOD.out).mono ?_
          rintro e w5 h
          rcases h with ⟨-, rfl, rfl⟩ | ⟨h, -⟩
          · have hD : K3s w5 w5.heap.size vd D := Sl.of_own k3C_len HOD.out (by omega)
            obtain rfl : D = [] := List.length_eq_zero_iff.1 h0
            have zg := size_of_block HBR.out
            have CB := fun gr : Gr w5 => Batch_t b [] g vd gr.val ((gr.b.block g zg).trans HBR.out) (hD.later gr.b) ok hpos
            have eX : foldB b [] = b := rfl
            rw [eX] at CB
            unfold btV at CB
            have kl := hlc 0 b rfl
            have cl0 : w5.cell? ⟨lb, lo, none⟩ = some (.int .i64 b.n) := by simpa using kl 0 _ rfl
            have cl1 : w5.cell? ⟨lb, lo + 1, none⟩ = some (.int .i64 b.s.a) := by simpa using kl 1 _ rfl
            have cl2 : w5.cell? ⟨lb, lo + 2, none⟩ = some (.int .i64 b.s.b) := by simpa using kl 2 _ rfl
            have cl3 : w5.cell? ⟨lb, lo + 3, none⟩ = some (.int .i64 b.s.c) := by simpa using kl 3 _ rfl
            have cl4 : w5.cell? ⟨lb, lo + 4, none⟩ = some (.int .i64 b.k0.lo) := by simpa using kl 4 _ rfl
            have cl5 : w5.cell? ⟨lb, lo + 5, none⟩ = some (.int .i64 b.k0.hi) := by simpa using kl 5 _ rfl
            have cl6 : w5.cell? ⟨lb, lo + 6, none⟩ = some (.int .i64 b.k1.lo) := by simpa using kl 6 _ rfl
            have cl7 : w5.cell? ⟨lb, lo + 7, none⟩ = some (.int .i64 b.k1.hi) := by simpa using kl 7 _ rfl
            have cl8 : w5.cell? ⟨lb, lo + 8, none⟩ = some (.int .i64 b.k2.lo) := by simpa using kl 8 _ rfl
            have cl9 : w5.cell? ⟨lb, lo + 9, none⟩ = some (.int .i64 b.k2.hi) := by simpa using kl 9 _ rfl
            clear kl
            have neBt := Try.neBt
            go_wp2_with fail
            refine wp_region_grown (by kernel_rfl) (by kernel_rfl) fun hcg => ?_
            repeat (go_big_quiet_step ((go_at_call 46; exact Calls.grown (CB _))))
            refine wpQuiet_nil ?_
            intro _ hw'
            obtain ⟨gr, hw''⟩ := hw'
            subst hw''
            go_wp2_with fail
            go_roundw
            case rel => exact ⟨j + 1, [], vd, by omega, by go_num, own_below HOL.out gr.b, (gr.b.block g zg).trans HBR.out, own_below HOD.out gr.b, ok, hpos, h40, hBr.trans (gr.b.mono (by have := hBr.size; omega))⟩
            case measure => simp [intOf]; omega
          · exact absurd (List.length_eq_zero_iff.1 h0) h
        · have hDn : D ≠ [] := fun e => h0 (by rw [e]; rfl)
          obtain ⟨n, hn⟩ : ∃ n, D.length = n + 1 := ⟨D.length - 1, by omega⟩
          have hdl : D.dropLast.length = n := by simp; omega
          obtain ⟨_, _, e', hcut, hblk⟩ := own_cut btL_len (l := binL b D) (by rw [binL_len]; exact HOL.out) D.length (by rw [binL_len]; omega) (by rw [binL_len]; omega)
          simp only [Value.slice.injEq] at e'
          obtain ⟨rfl, -, rfl⟩ := e'
          have hcap := own_cap HOL.out
          have eD : (binL b D).take D.length = binL b D.dropLast := by rw [List.dropLast_eq_take, binL_take b (by omega)]; congr 1; omega
          have kl := hlc n (foldB b D.dropLast) (by rw [binL_get (by omega), List.dropLast_eq_take]; congr 3; omega)
          rw [eD] at hcut
          have hcB := own_ne_block hcut HBR.out (by decide)
          have hcD := fun k hk => own_apart hcut HOD.out (g := k) hk (by decide)
          have ok5 : okBin b D.dropLast := by rw [List.dropLast_eq_take]; exact okBin_take ok _
          have hp5 : ∀ x ∈ D.dropLast, 0 ≤ x.a ∧ 0 ≤ x.b ∧ 0 ≤ x.c := fun x hx => hpos x (List.dropLast_subset D hx)
          obtain ⟨m, hm⟩ : ∃ m, m = D.length + 1 := ⟨_, rfl⟩
          rw [← hm] at hcap ⊢
          have dl : ((m : Int) == 1) = false := by rw [beq_eq_false_iff_ne]; omega
          have hl1 : (m : Int) - 1 = (D.length : Int) := by omega
          have hl2 : (D.length : Int) - 1 = (n : Int) := by omega
          have hd1 : (D.length : Int) ≤ 9223372036854775806 := by omega
          have hd2 : D.length ≤ cap2 := by omega
          have hd3 : ¬ ((D.length : Int) < 0) := by omega
          have hn2 : n < D.length := by omega
          have HM := Lib.hid hm
          have HN := Lib.hid hn
          have HC := Lib.hid hcut
          have HE := Lib.hid eD
          have HB' := Lib.hid hcB
          have HD' := Lib.hid hcD
          have HL := Lib.hid hdl
          have HCP := Lib.hid hcap
          clear hm hn hcut hblk eD hcB hcD hdl hcap
          go_wp2_with fail
          refine (Back_c b D g (g + 1) vd _ HBR.out HOD.out).mono ?_
          rintro e w5 h
          rcases h with ⟨h, -⟩ | ⟨-, rfl, v5, hb5, ho5, hf5, hv5⟩
          · exact absurd h hDn
          have hlen5 : D.length - 1 = D.dropLast.length := by simp
          rw [hlen5] at ho5
          have hoc : w5.ownsRow (g + 1) 34 10 (.slice (some ⟨lb, lo, none⟩) D.length cap2) D.length ((binL b D.dropLast).flatMap btL) := own_frame HC.out hf5 HB'.out (fun k hk => by simp)
          have hD : K3s w5 w5.heap.size v5 D.dropLast := Sl.of_own k3C_len ho5 (by have := HL.out; omega)
          have zg := size_of_block hb5
          have CB := fun gr : Gr w5 => Batch_t b D.dropLast g v5 gr.val ((gr.b.block g zg).trans hb5) (hD.later gr.b) ok5 hp5
          obtain ⟨hlb5, kl5⟩ := own_reads btL_len hoc (by rw [binL_len, HL.out]; exact HN.out) (by omega) (i := n) (x := foldB b D.dropLast) (by rw [← HL.out]; exact binL_last b D.dropLast)
          obtain ⟨X, hX⟩ : ∃ X, X = foldB b D.dropLast := ⟨_, rfl⟩
          rw [← hX] at CB kl5
          unfold btV at CB
          have HX := Lib.hid hX
          have cl0 : w5.cell? ⟨lb, lo + n * 10, none⟩ = some (.int .i64 X.n) := kl5 0 _ rfl
          have cl1 : w5.cell? ⟨lb, lo + n * 10 + 1, none⟩ = some (.int .i64 X.s.a) := kl5 1 _ rfl
          have cl2 : w5.cell? ⟨lb, lo + n * 10 + 2, none⟩ = some (.int .i64 X.s.b) := kl5 2 _ rfl
          have cl3 : w5.cell? ⟨lb, lo + n * 10 + 3, none⟩ = some (.int .i64 X.s.c) := kl5 3 _ rfl
          have cl4 : w5.cell? ⟨lb, lo + n * 10 + 4, none⟩ = some (.int .i64 X.k0.lo) := kl5 4 _ rfl
          have cl5 : w5.cell? ⟨lb, lo + n * 10 + 5, none⟩ = some (.int .i64 X.k0.hi) := kl5 5 _ rfl
          have cl6 : w5.cell? ⟨lb, lo + n * 10 + 6, none⟩ = some (.int .i64 X.k1.lo) := kl5 6 _ rfl
          have cl7 : w5.cell? ⟨lb, lo + n * 10 + 7, none⟩ = some (.int .i64 X.k1.hi) := kl5 7 _ rfl
          have cl8 : w5.cell? ⟨lb, lo + n * 10 + 8, none⟩ = some (.int .i64 X.k2.lo) := kl5 8 _ rfl
          have cl9 : w5.cell? ⟨lb, lo + n * 10 + 9, none⟩ = some (.int .i64 X.k2.hi) := kl5 9 _ rfl
          clear kl5 kl hX
          have neBt := Try.neBt
          go_wp2_with fail
          refine wp_region_grown (by kernel_rfl) (by kernel_rfl) fun hcg => ?_
          repeat (go_big_quiet_step ((go_at_call 46; exact Calls.grown (CB _))))
          refine wpQuiet_nil ?_
          intro _ hw'
          obtain ⟨gr, hw''⟩ := hw'
          subst hw''
          go_wp2_with fail
          go_roundw
          case rel =>
            have zgr := size_of_block HBR.out
            have := HL.out
            have := HN.out
            refine ⟨j + 1, D.dropLast, v5, by omega, by go_num, ?_, (gr.b.block g zg).trans hb5, own_below ho5 gr.b, ok5, hp5, by omega, (hf5.below hBr (by omega) (by have := hBr.size; omega) (by simp)).trans (gr.b.mono (by have := hf5.size; have := hBr.size; omega))⟩
            rw [HL.out, ← HN.out]
            exact own_below hoc gr.b
          case measure => simp [intOf]; omega
      | false =>
        obtain ⟨m, hm⟩ : ∃ m, m = D.length + 1 := ⟨_, rfl⟩
        rw [← hm] at HOL ⊢
        have hl1 : (m : Int) - 1 = (D.length : Int) := by omega
        have hn2 : D.length < m := by omega
        obtain ⟨-, kl⟩ := own_reads btL_len HOL.out (by rw [binL_len]; exact hm) (by omega) (binL_last b D)
        have ms := more_snd (foldB b D) s
        have mg := fun h => more_good (b := foldB b D) (s := s) h
        have CM := fun W => More3_c (foldB b D) s W
        obtain ⟨X, hX⟩ : ∃ X, X = foldB b D := ⟨_, rfl⟩
        obtain ⟨M, hM⟩ : ∃ M, M = moreR X s := ⟨_, rfl⟩
        rw [← hX] at kl ms mg CM
        rw [← hM] at ms mg CM
        unfold btV k3V madeV at CM
        have HX := Lib.hid hX
        have HM := Lib.hid hM
        have HD := Lib.hid hm
        have HMS := Lib.hid ms
        have HMG := Lib.hid mg
        have cl0 : wr.cell? ⟨lb, lo + D.length * 10, none⟩ = some (.int .i64 X.n) := kl 0 _ rfl
        have cl1 : wr.cell? ⟨lb, lo + D.length * 10 + 1, none⟩ = some (.int .i64 X.s.a) := kl 1 _ rfl
        have cl2 : wr.cell? ⟨lb, lo + D.length * 10 + 2, none⟩ = some (.int .i64 X.s.b) := kl 2 _ rfl
        have cl3 : wr.cell? ⟨lb, lo + D.length * 10 + 3, none⟩ = some (.int .i64 X.s.c) := kl 3 _ rfl
        have cl4 : wr.cell? ⟨lb, lo + D.length * 10 + 4, none⟩ = some (.int .i64 X.k0.lo) := kl 4 _ rfl
        have cl5 : wr.cell? ⟨lb, lo + D.length * 10 + 5, none⟩ = some (.int .i64 X.k0.hi) := kl 5 _ rfl
        have cl6 : wr.cell? ⟨lb, lo + D.length * 10 + 6, none⟩ = some (.int .i64 X.k1.lo) := kl 6 _ rfl
        have cl7 : wr.cell? ⟨lb, lo + D.length * 10 + 7, none⟩ = some (.int .i64 X.k1.hi) := kl 7 _ rfl
        have cl8 : wr.cell? ⟨lb, lo + D.length * 10 + 8, none⟩ = some (.int .i64 X.k2.lo) := kl 8 _ rfl
        have cl9 : wr.cell? ⟨lb, lo + D.length * 10 + 9, none⟩ = some (.int .i64 X.k2.hi) := kl 9 _ rfl
        clear kl hX hM hm ms mg
        go_wp2_with fail
        refine wp_region_planP 12 [.f [0, 1, 2, 3, 4, 5, 6, 7, 8, 9, 10, 11]] [] [13] (by kernel_rfl) (by kernel_rfl) (by intro c a d v w h; cases d <;> exact h) fun W2 hb2 => ?_
        have zsb : sb < wr.heap.size := by have := hBr.size; have := size_of_block HBR.out; omega
        have T1 := Lib.hid s1
        have T2 := Lib.hid s2
        have T3 := Lib.hid s3
        replace s1 := ((bcell hb2).1 _ _ zsb).trans s1
        replace s2 := ((bcell hb2).1 _ _ zsb).trans s2
        replace s3 := ((bcell hb2).1 _ _ zsb).trans s3
        replace cl0 := ((bcell hb2).1 _ _ hlb).trans cl0
        replace cl1 := ((bcell hb2).1 _ _ hlb).trans cl1
        replace cl2 := ((bcell hb2).1 _ _ hlb).trans cl2
        replace cl3 := ((bcell hb2).1 _ _ hlb).trans cl3
        replace cl4 := ((bcell hb2).1 _ _ hlb).trans cl4
        replace cl5 := ((bcell hb2).1 _ _ hlb).trans cl5
        replace cl6 := ((bcell hb2).1 _ _ hlb).trans cl6
        replace cl7 := ((bcell hb2).1 _ _ hlb).trans cl7
        replace cl8 := ((bcell hb2).1 _ _ hlb).trans cl8
        replace cl9 := ((bcell hb2).1 _ _ hlb).trans cl9
        have hlb2 : lb < W2.heap.size := Nat.lt_of_lt_of_le hlb hb2.size
        have hsb2 : sb < W2.heap.size := Nat.lt_of_lt_of_le zsb hb2.size
        have hcg : ∀ (g : Gr W2) b o, b < W2.heap.size → g.val.cell? ⟨b, o, none⟩ = W2.cell? ⟨b, o, none⟩ := fun g b o h => (bcell g.b).1 b o h
        simp only [pick, List.filterMap_cons, List.filterMap_nil, List.getElem?_toArray, List.getElem?_cons_succ, List.getElem?_cons_zero, wpPlanAG, wpPure]
        have hwr : IntKind.i64.wrap (D.length : Int) = (D.length : Int) := IntWalk.i64_in _ ⟨by omega, by omega⟩
        have hwj : IntKind.i64.wrap (j : Int) = (j : Int) := IntWalk.i64_in _ ⟨by omega, by omega⟩
        have hmd : (D.length : Int) < (m : Int) := by omega
        have hjl : (j : Int) < (l.length : Int) := by omega
        have hD0 : (0 : Int) ≤ (D.length : Int) := by omega
        have hj0 : (0 : Int) ≤ (j : Int) := by omega
        iterate 11 (refine wpRel_step (fun K hK => ?_); go_simp; refine hK _ ?_; clear hK K)
        refine wpRel_step (fun K hK => ?_); go_simp
        apply Exists.intro; refine ⟨fun g => CM g.val, hK _ ?_⟩; clear hK K
        refine wpRel_nil fun W3 hb3 => ?_
        refine ⟨_, rfl, rfl, ?_⟩
        go_simp
        have nB := heap_alloc_new W3 (.cells #[.int .i64 0, .int .i64 0, .int .i64 0, .int .i64 0, .int .i64 0, .int .i64 0, .int .i64 0, .int .i64 0, .int .i64 0, .int .i64 0, .int .i64 0] 71)
        have aB := below_alloc W3 (.cells #[.int .i64 0, .int .i64 0, .int .i64 0, .int .i64 0, .int .i64 0, .int .i64 0, .int .i64 0, .int .i64 0, .int .i64 0, .int .i64 0, .int .i64 0] 71)
        first | refine ⟨aB, fun W4 hu => ?_⟩ | refine fun W4 hu => ?_
        replace nB := (hu.block _ (size_of_block nB)).trans nB
        have B3 := below_then hb2 hb3
        have B4 := below_then B3 (below_then aB hu)
        have hs3 := B3.size
        have hs4 := size_of_block nB
        have B5 := below_setRow B4 hs3 #[.int .i64 M.1.n, .int .i64 M.1.s.a, .int .i64 M.1.s.b, .int .i64 M.1.s.c, .int .i64 M.1.k0.lo, .int .i64 M.1.k0.hi, .int .i64 M.1.k1.lo, .int .i64 M.1.k1.hi, .int .i64 M.1.k2.lo, .int .i64 M.1.k2.hi, .int .i64 M.2]
        have nB5 := setRow_heap W4 W3.heap.size _ #[.int .i64 M.1.n, .int .i64 M.1.s.a, .int .i64 M.1.s.b, .int .i64 M.1.s.c, .int .i64 M.1.k0.lo, .int .i64 M.1.k0.hi, .int .i64 M.1.k1.lo, .int .i64 M.1.k1.hi, .int .i64 M.1.k2.lo, .int .i64 M.1.k2.hi, .int .i64 M.2] _ _ nB
        show wpList _ _ _ _ _ _
        refine wpList_store_rowTo rfl 71 _ _ rfl rfl W3.heap.size #[.int .i64 M.1.n, .int .i64 M.1.s.a, .int .i64 M.1.s.b, .int .i64 M.1.s.c, .int .i64 M.1.k0.lo, .int .i64 M.1.k0.hi, .int .i64 M.1.k1.lo, .int .i64 M.1.k1.hi, .int .i64 M.1.k2.lo, .int .i64 M.1.k2.hi, .int .i64 M.2] rfl rfl 71 _ nB (by kernel_rfl) rfl (by kernel_rfl) ?_
        have zg := size_of_block HBR.out
        have zn4 := hs4
        generalize W4.setRow W3.heap.size #[.int .i64 M.1.n, .int .i64 M.1.s.a, .int .i64 M.1.s.b, .int .i64 M.1.s.c, .int .i64 M.1.k0.lo, .int .i64 M.1.k0.hi, .int .i64 M.1.k1.lo, .int .i64 M.1.k1.hi, .int .i64 M.1.k2.lo, .int .i64 M.1.k2.hi, .int .i64 M.2] = W5 at *
        have BR5 := (B5.block g zg).trans HBR.out
        have hol5 := own_below HOL.out B5
        have hod5 := own_below HOD.out B5
        have t1 := ((bcell B5).1 _ _ zsb).trans T1.out
        have t2 := ((bcell B5).1 _ _ zsb).trans T2.out
        have t3 := ((bcell B5).1 _ _ zsb).trans T3.out
        have zsb5 : sb < W5.heap.size := Nat.lt_of_lt_of_le zsb B5.size
        have zn5 := size_of_block nB5
        clear hu aB nB CM hb2 hb3 B3 B4 hcg hs4 hs3 s1 s2 s3 cl0 cl1 cl2 cl3 cl4 cl5 cl6 cl7 cl8 cl9
        have HOLB := Lib.hid hol5
        have HODB := Lib.hid hod5
        have H40 := Lib.hid h40
        have HPOS := Lib.hid hpos
        have HOK := Lib.hid ok
        clear hol5 hod5 hpos ok
        have c10 := Joins.cell_of_block nB5 10
        have CD := fun W (hW : Below W5.heap.size W5 W) => Draw_c b D s g (g + 1) vd W ((hW.block g (size_of_block BR5)).trans BR5) (own_below HODB.out hW) HOK.out HPOS.out h40 (by have := size_of_block BR5; have := hW.size; omega)
        unfold k3V at CD
        by_cases hm40 : D.length = 40
        · have d40 : decide ((m : Int) > 40) = true := by have := HD.out; simp; omega
          have HM40 := Lib.hid hm40
          clear hm40
          go_wp2_with fail
          refine (CD W5 (Below.refl _ _)).mono ?_
          rintro e w6 h
          rcases h with ⟨-, rfl, hbD⟩ | ⟨h, -⟩ | ⟨h, -⟩
          rotate_left
          · have := HM40.out; omega
          · have := HM40.out; omega
          have BR6 := (hbD.block g (size_of_block BR5)).trans BR5
          have hol6 := own_below HOLB.out hbD
          have hod6 := own_below HODB.out hbD
          have zn6 := Nat.lt_of_lt_of_le zn5 hbD.size
          clear t1 t2 t3 c10 CD
          have hD : K3s w6 w6.heap.size vd (D) := Sl.of_own k3C_len hod6 (by have := H40.out; omega)
          have zg := size_of_block BR6
          have CB := fun gr : Gr w6 => Batch_t b (D) g vd gr.val ((gr.b.block g zg).trans BR6) (hD.later gr.b) HOK.out HPOS.out
          obtain ⟨hlb5, kl5⟩ := own_reads btL_len hol6 (by rw [binL_len]; exact HD.out) (by omega) (binL_last b (D))
          obtain ⟨X', hX'⟩ : ∃ X', X' = foldB b (D) := ⟨_, rfl⟩
          rw [← hX'] at CB kl5
          unfold btV at CB
          have HX' := Lib.hid hX'
          have cl0 : w6.cell? ⟨lb, lo + D.length * 10, none⟩ = some (.int .i64 X'.n) := kl5 0 _ rfl
          have cl1 : w6.cell? ⟨lb, lo + D.length * 10 + 1, none⟩ = some (.int .i64 X'.s.a) := kl5 1 _ rfl
          have cl2 : w6.cell? ⟨lb, lo + D.length * 10 + 2, none⟩ = some (.int .i64 X'.s.b) := kl5 2 _ rfl
          have cl3 : w6.cell? ⟨lb, lo + D.length * 10 + 3, none⟩ = some (.int .i64 X'.s.c) := kl5 3 _ rfl
          have cl4 : w6.cell? ⟨lb, lo + D.length * 10 + 4, none⟩ = some (.int .i64 X'.k0.lo) := kl5 4 _ rfl
          have cl5 : w6.cell? ⟨lb, lo + D.length * 10 + 5, none⟩ = some (.int .i64 X'.k0.hi) := kl5 5 _ rfl
          have cl6 : w6.cell? ⟨lb, lo + D.length * 10 + 6, none⟩ = some (.int .i64 X'.k1.lo) := kl5 6 _ rfl
          have cl7 : w6.cell? ⟨lb, lo + D.length * 10 + 7, none⟩ = some (.int .i64 X'.k1.hi) := kl5 7 _ rfl
          have cl8 : w6.cell? ⟨lb, lo + D.length * 10 + 8, none⟩ = some (.int .i64 X'.k2.lo) := kl5 8 _ rfl
          have cl9 : w6.cell? ⟨lb, lo + D.length * 10 + 9, none⟩ = some (.int .i64 X'.k2.hi) := kl5 9 _ rfl
          clear kl5 hX' hD
          have neBt := Try.neBt
          go_wp2_with fail
          refine wp_region_grown (by kernel_rfl) (by kernel_rfl) fun hcg => ?_
          repeat (go_big_quiet_step ((go_at_call 46; exact Calls.grown (CB _))))
          refine wpQuiet_nil ?_
          intro _ hw'
          obtain ⟨gr, hw''⟩ := hw'
          subst hw''
          go_wp2_with fail
          go_roundw
          case rel => exact ⟨j + 1, D, vd, by omega, by go_num, HD.out ▸ own_below hol6 gr.b, (gr.b.block g zg).trans BR6, own_below hod6 gr.b, HOK.out, HPOS.out, h40, hBr.trans ((below_then B5 (below_then hbD gr.b)).mono (by have := hBr.size; omega))⟩
          case measure => simp [intOf]; omega
        · have d40 : decide ((m : Int) > 40) = false := by have := HD.out; simp; omega
          by_cases hm : M.2 = 0
          · have d0 : (M.2 == 0) = true := by simpa using hm
            have c0 := fun i => Joins.cell_of_block nB5 i
            have c10 := c0 0
            have c11 := c0 1
            have c12 := c0 2
            have c13 := c0 3
            have c14 := c0 4
            have c15 := c0 5
            have c16 := c0 6
            have c17 := c0 7
            have c18 := c0 8
            have c19 := c0 9
            obtain ⟨i0, hi, hz0, hz1, hz2⟩ := info_parts Try.infoBt
            have HI := Lib.hid hi
            have HI0 := Lib.hid hz0
            have HI1 := Lib.hid hz1
            have HI2 := Lib.hid hz2
            clear hi hz0 hz1 hz2 c0
            go_wp2_with (at_builtin; refine wpList_append_own _ rfl _ _ 66 rfl (g + 1) 34 i0 (.agg #[.int .i64 0, .int .i64 0, .int .i64 0, .int .i64 0, .int .i64 0, .int .i64 0, .int .i64 0, .int .i64 0, .int .i64 0, .int .i64 0]) 10 80 Try.underlying66 HI.out HI0.out HI1.out HI2.out rfl (by decide) _ _ _ rfl (own_below HOLB.out (below_alloc W5 _)) ⟨W5.heap.size, 0, none⟩ 1 1 [.int .i64 M.1.n, .int .i64 M.1.s.a, .int .i64 M.1.s.b, .int .i64 M.1.s.c, .int .i64 M.1.k0.lo, .int .i64 M.1.k0.hi, .int .i64 M.1.k1.lo, .int .i64 M.1.k1.hi, .int .i64 M.1.k2.lo, .int .i64 M.1.k2.hi] rfl rfl ?c1 ?c2 ?c3 ?c4 ?c5 ?_)
            case c1 => have := cells_new W5 [.int .i64 M.1.n, .int .i64 M.1.s.a, .int .i64 M.1.s.b, .int .i64 M.1.s.c, .int .i64 M.1.k0.lo, .int .i64 M.1.k0.hi, .int .i64 M.1.k1.lo, .int .i64 M.1.k1.hi, .int .i64 M.1.k2.lo, .int .i64 M.1.k2.hi] 34; simpa using this
            case c2 => intro u hu; simp at hu; rcases hu with rfl | rfl | rfl | rfl | rfl | rfl | rfl | rfl | rfl | rfl <;> rfl
            case c3 => have := H40.out; have := HD.out; unfold maxLen; omega
            case c4 => have := H40.out; have := HD.out; omega
            case c5 => have := size_of_block BR5; simp; omega
            intro v' W7 hown7 hgrow _
            have hMX : M = (addB X s, 0) := by exact HMG.out (by rw [← HMS.out]; exact hm)
            have hmo : moreE (foldB b D) s = 0 := by rw [← HX.out, ← HMS.out]; exact hm
            have hok := more_ok hmo
            have hz7 : W5.heap.size ≤ W7.heap.size := by have := hgrow.size; simp at this; omega
            have own5 := own_below HOLB.out (below_alloc W5 (.cells #[.int .i64 M.1.n, .int .i64 M.1.s.a, .int .i64 M.1.s.b, .int .i64 M.1.s.c, .int .i64 M.1.k0.lo, .int .i64 M.1.k0.hi, .int .i64 M.1.k1.lo, .int .i64 M.1.k1.hi, .int .i64 M.1.k2.lo, .int .i64 M.1.k2.hi] 34))
            have od5 := own_below HODB.out (below_alloc W5 (.cells #[.int .i64 M.1.n, .int .i64 M.1.s.a, .int .i64 M.1.s.b, .int .i64 M.1.s.c, .int .i64 M.1.k0.lo, .int .i64 M.1.k0.hi, .int .i64 M.1.k1.lo, .int .i64 M.1.k1.hi, .int .i64 M.1.k2.lo, .int .i64 M.1.k2.hi] 34))
            have br5 := (Below.heap_alloc W5 (.cells #[.int .i64 M.1.n, .int .i64 M.1.s.a, .int .i64 M.1.s.b, .int .i64 M.1.s.c, .int .i64 M.1.k0.lo, .int .i64 M.1.k0.hi, .int .i64 M.1.k1.lo, .int .i64 M.1.k1.hi, .int .i64 M.1.k2.lo, .int .i64 M.1.k2.hi] 34) g (size_of_block BR5)).trans BR5
            have hlg := own_ne_block own5 br5 (by decide)
            have hld := fun k hk => own_apart od5 own5 (g := k) hk (by decide)
            have BR7 : BinIs W7 g b vd := (hgrow.block g (size_of_block br5) (fun e => hlg e.symm)).trans br5
            have od7 := own_frame (g := W7.heap.size) od5 (⟨hgrow.os, hgrow.tape, hgrow.output, hgrow.size, fun k hk _ h2 => hgrow.block k hk (fun e => h2 e.symm)⟩ : FrameB _ W7 W7.heap.size (Value.slice (some ⟨lb, lo, none⟩) m cap2).ownBlock) (fun e => by have := (od5.lt _ e).2; have := hgrow.size; omega) hld
            have B7 : Below (g + 1) W5 W7 := below_append (Below.refl _ _) (by have := size_of_block BR5; omega) HOLB.out hgrow
            have t1' := (B7.cell (p := ⟨sb, so + j * 4 + 1, none⟩) (show sb < g + 1 by omega)).trans t1
            have t2' := (B7.cell (p := ⟨sb, so + j * 4 + 2, none⟩) (show sb < g + 1 by omega)).trans t2
            have t3' := (B7.cell (p := ⟨sb, so + j * 4 + 3, none⟩) (show sb < g + 1 by omega)).trans t3
            have zsb7 : sb < W7.heap.size := by have := hgrow.size; simp at this; omega
            have zg7 := size_of_block BR7
            have hlg7 := own_ne_block hown7 BR7 (by decide)
            have hld7 := fun k hk => own_apart hown7 od7 (g := k) hk (by decide)
            have hlen : (D ++ [s]).length = m := by rw [HD.out]; simp
            have hM1 : addB (foldB b D) s = M.1 := by rw [hMX, ← HX.out]
            have eL : (binL b (D ++ [s])).flatMap btL = (binL b D).flatMap btL ++ [.int .i64 M.1.n, .int .i64 M.1.s.a, .int .i64 M.1.s.b, .int .i64 M.1.s.c, .int .i64 M.1.k0.lo, .int .i64 M.1.k0.hi, .int .i64 M.1.k1.lo, .int .i64 M.1.k1.hi, .int .i64 M.1.k2.lo, .int .i64 M.1.k2.hi] := by rw [binL_snoc, List.flatMap_append, hM1]; simp [btL]
            rw [← eL] at hown7
            have CDr := Draw_c b D s g (g + 1) vd W7 BR7 od7 HOK.out HPOS.out h40 (by omega)
            unfold k3V at CDr
            obtain ⟨gl, cap', rfl⟩ := ownsRow_succ hown7
            have HOWN := Lib.hid hown7
            have HB7 := Lib.hid B7
            have HBr := Lib.hid (hBr.trans ((B5.mono (by have := hBr.size; omega)).trans (B7.mono (by omega))))
            have HOD7 := Lib.hid od7
            have HLEN := Lib.hid hlen
            have HEL := Lib.hid eL
            have HHL := Lib.hid hlg7
            have HHD := Lib.hid hld7
            have HOKS := Lib.hid hok
            have HMO := Lib.hid hmo
            have HM40 := Lib.hid hm40
            clear hgrow own5 od5 br5 hlg hld BR7 od7 B7 t1 t2 t3 CD hown7 hlen eL hlg7 hld7 hok hmo hMX hM1 hm40 c10 c11 c12 c13 c14 c15 c16 c17 c18 c19
            go_wp2_with fail
            refine CDr.mono ?_
            clear CDr
            rintro e w6 h
            rcases h with ⟨h, -⟩ | ⟨-, h, -⟩ | ⟨-, -, rfl, v6, BR6, od6, FR6, -⟩
            · have := HM40.out; omega
            · exact absurd HMO.out h
            have hol6 := own_frame HOWN.out FR6 HHL.out HHD.out
            have hl6 : (D ++ [s]).length = D.length + 1 := by simp
            rw [← hl6] at od6
            have hD : K3s w6 w6.heap.size v6 (D ++ [s]) := Sl.of_own k3C_len od6 (by have := H40.out; rw [hl6]; omega)
            have zg := size_of_block BR6
            have okS : okBin b (D ++ [s]) := okBin_snoc HOK.out HOKS.out.2.2.2
            have posS : ∀ x ∈ D ++ [s], 0 ≤ x.a ∧ 0 ≤ x.b ∧ 0 ≤ x.c := fun x hx => by
              rcases List.mem_append.1 hx with h | h
              · exact HPOS.out x h
              · rw [List.mem_singleton.1 h]; exact sorted_pos HOKS.out.2.1
            have CB := fun gr : Gr w6 => Batch_t b (D ++ [s]) g v6 gr.val ((gr.b.block g zg).trans BR6) (hD.later gr.b) okS posS
            obtain ⟨hlb5, kl5⟩ := own_reads btL_len hol6 (by rw [binL_len, HLEN.out]) (by have := H40.out; have := HD.out; omega) (binL_last b (D ++ [s]))
            obtain ⟨X', hX'⟩ : ∃ X', X' = foldB b (D ++ [s]) := ⟨_, rfl⟩
            rw [← hX'] at CB kl5
            rw [HLEN.out] at kl5
            unfold btV at CB
            have HX' := Lib.hid hX'
            have cl0 : w6.cell? ⟨gl, m * 10, none⟩ = some (.int .i64 X'.n) := by simpa using kl5 0 _ rfl
            have cl1 : w6.cell? ⟨gl, m * 10 + 1, none⟩ = some (.int .i64 X'.s.a) := by simpa using kl5 1 _ rfl
            have cl2 : w6.cell? ⟨gl, m * 10 + 2, none⟩ = some (.int .i64 X'.s.b) := by simpa using kl5 2 _ rfl
            have cl3 : w6.cell? ⟨gl, m * 10 + 3, none⟩ = some (.int .i64 X'.s.c) := by simpa using kl5 3 _ rfl
            have cl4 : w6.cell? ⟨gl, m * 10 + 4, none⟩ = some (.int .i64 X'.k0.lo) := by simpa using kl5 4 _ rfl
            have cl5 : w6.cell? ⟨gl, m * 10 + 5, none⟩ = some (.int .i64 X'.k0.hi) := by simpa using kl5 5 _ rfl
            have cl6 : w6.cell? ⟨gl, m * 10 + 6, none⟩ = some (.int .i64 X'.k1.lo) := by simpa using kl5 6 _ rfl
            have cl7 : w6.cell? ⟨gl, m * 10 + 7, none⟩ = some (.int .i64 X'.k1.hi) := by simpa using kl5 7 _ rfl
            have cl8 : w6.cell? ⟨gl, m * 10 + 8, none⟩ = some (.int .i64 X'.k2.lo) := by simpa using kl5 8 _ rfl
            have cl9 : w6.cell? ⟨gl, m * 10 + 9, none⟩ = some (.int .i64 X'.k2.hi) := by simpa using kl5 9 _ rfl
            have HOL6 := Lib.hid hol6
            have HPS := Lib.hid posS
            have HKS := Lib.hid okS
            clear kl5 hX' hD hol6 hl6 posS okS
            have neBt := Try.neBt
            have hl7 : (m : Int) + 1 - 1 = (m : Int) := by omega
            have hm63 : m < 100 := by have := H40.out; have := HD.out; omega
            go_wp2_with fail
            refine wp_region_grown (by kernel_rfl) (by kernel_rfl) fun hcg => ?_
            repeat (go_big_quiet_step ((go_at_call 46; exact Calls.grown (CB _))))
            refine wpQuiet_nil ?_
            intro _ hw'
            obtain ⟨gr, hw''⟩ := hw'
            subst hw''
            go_wp2_with fail
            go_roundw
            case rel => exact ⟨j + 1, D ++ [s], v6, by omega, by go_num, by rw [HLEN.out]; exact own_below HOL6.out gr.b, (gr.b.block g zg).trans BR6, own_below od6 gr.b, HKS.out, HPS.out, by have := HLEN.out; have := HD.out; have := H40.out; have := HM40.out; omega, (FR6.below HBr.out (by omega) (by omega) (fun k hk => by have := (HOD7.out.lt k hk).1; omega)).trans (gr.b.mono (by have := FR6.size; omega))⟩
            case measure => simp [intOf]; omega
          · have d0 : (M.2 == 0) = false := by simpa using hm
            go_wp2_with fail
            refine (CD W5 (Below.refl _ _)).mono ?_
            rintro e w6 h
            rcases h with ⟨h, -⟩ | ⟨-, hne, rfl, hbD⟩ | ⟨-, h, -⟩
            · omega
            rotate_left
            · exact absurd ((HMS.out.trans (by rw [HX.out])).trans h) hm
            have hfe : moreE (foldB b D) s = M.2 := by rw [HMS.out, HX.out]
            rw [hfe]
            have BR6 := (hbD.block g (size_of_block BR5)).trans BR5
            have hol6 := own_below HOLB.out hbD
            have hod6 := own_below HODB.out hbD
            have zn6 := Nat.lt_of_lt_of_le zn5 hbD.size
            clear t1 t2 t3 c10 CD
            have hD : K3s w6 w6.heap.size vd (D) := Sl.of_own k3C_len hod6 (by have := H40.out; omega)
            have zg := size_of_block BR6
            have CB := fun gr : Gr w6 => Batch_t b (D) g vd gr.val ((gr.b.block g zg).trans BR6) (hD.later gr.b) HOK.out HPOS.out
            obtain ⟨hlb5, kl5⟩ := own_reads btL_len hol6 (by rw [binL_len]; exact HD.out) (by omega) (binL_last b (D))
            obtain ⟨X', hX'⟩ : ∃ X', X' = foldB b (D) := ⟨_, rfl⟩
            rw [← hX'] at CB kl5
            unfold btV at CB
            have HX' := Lib.hid hX'
            have cl0 : w6.cell? ⟨lb, lo + D.length * 10, none⟩ = some (.int .i64 X'.n) := kl5 0 _ rfl
            have cl1 : w6.cell? ⟨lb, lo + D.length * 10 + 1, none⟩ = some (.int .i64 X'.s.a) := kl5 1 _ rfl
            have cl2 : w6.cell? ⟨lb, lo + D.length * 10 + 2, none⟩ = some (.int .i64 X'.s.b) := kl5 2 _ rfl
            have cl3 : w6.cell? ⟨lb, lo + D.length * 10 + 3, none⟩ = some (.int .i64 X'.s.c) := kl5 3 _ rfl
            have cl4 : w6.cell? ⟨lb, lo + D.length * 10 + 4, none⟩ = some (.int .i64 X'.k0.lo) := kl5 4 _ rfl
            have cl5 : w6.cell? ⟨lb, lo + D.length * 10 + 5, none⟩ = some (.int .i64 X'.k0.hi) := kl5 5 _ rfl
            have cl6 : w6.cell? ⟨lb, lo + D.length * 10 + 6, none⟩ = some (.int .i64 X'.k1.lo) := kl5 6 _ rfl
            have cl7 : w6.cell? ⟨lb, lo + D.length * 10 + 7, none⟩ = some (.int .i64 X'.k1.hi) := kl5 7 _ rfl
            have cl8 : w6.cell? ⟨lb, lo + D.length * 10 + 8, none⟩ = some (.int .i64 X'.k2.lo) := kl5 8 _ rfl
            have cl9 : w6.cell? ⟨lb, lo + D.length * 10 + 9, none⟩ = some (.int .i64 X'.k2.hi) := kl5 9 _ rfl
            clear kl5 hX' hD
            have neBt := Try.neBt
            go_wp2_with fail
            refine wp_region_grown (by kernel_rfl) (by kernel_rfl) fun hcg => ?_
            repeat (go_big_quiet_step ((go_at_call 46; exact Calls.grown (CB _))))
            refine wpQuiet_nil ?_
            intro _ hw'
            obtain ⟨gr, hw''⟩ := hw'
            subst hw''
            go_wp2_with fail
            go_roundw
            case rel => exact ⟨j + 1, D, vd, by omega, by go_num, HD.out ▸ own_below hol6 gr.b, (gr.b.block g zg).trans BR6, own_below hod6 gr.b, HOK.out, HPOS.out, h40, hBr.trans ((below_then B5 (below_then hbD gr.b)).mono (by have := hBr.size; omega))⟩
            case measure => simp [intOf]; omega
    · obtain rfl : j = l.length := by omega
      have dlt : decide ((l.length : Int) < (l.length : Int)) = false := decide_eq_false (by omega)
      go_wp2_with fail
      go_ret
      exact ⟨rfl, hF4.trans (hBr.mono (Nat.le_succ _))⟩
end Go.Proofs.Ytaaeipjnhjgjdaa
