/- Texts joined: 3ProgH 3ProgI. -/
import Derived.Test.YtaaeipjnhjgjdaaJ18
import Derived.Deep.LoopGhost
/- The smallest plan, by package sample. -/
namespace Go.Proofs.Ytaaeipjnhjgjdaa
open Go Go.RowKit Go.Shelf

def rtC (r : Rt) : List Value := [.int .i64 r.num, .int .i64 r.den]
theorem rtC_len (r : Rt) : (rtC r).length = 2 := rfl
@[reducible] def Rts (w : World) (B : Nat) (v : Value) (l : List Rt) : Prop := Sl rtC 2 w B v l
theorem laid {α : Type} {c : α → List Value} {s : Nat} (hc : ∀ x, (c x).length = s) (w : World) (l : List α) (t : TypeId) (cs : Array Value) (g n : Nat) (hcs : cs = (l.flatMap c).toArray) (hl : l.length ≤ 140737488355328) (hg : g = w.heap.size) (hn : n = l.length) :
    Sl c s (w.alloc (.cells cs t)) (w.alloc (.cells cs t)).heap.size (.slice (some ⟨g, 0, none⟩) n n) l := by
  subst hg hn
  refine ⟨_, _, rfl, Nat.le_refl _, hl, fun _ => ⟨w.heap.size, 0, rfl, by simp, fun i x hx j u hu => ?_⟩⟩
  rw [World.cell?_alloc_mark w cs t (0, 0) _, hcs]
  simpa using flat_at hc l i x j u hx hu
theorem Rts.open_ {w : World} {B : Nat} {v : Value} {l : List Rt} (h : Rts w B v l) :
    ∃ (A : Option Addr) (cap : Nat), v = .slice A l.length cap ∧ l.length ≤ cap ∧ l.length ≤ 140737488355328 ∧
      ∀ k, k < l.length → ∃ b off x, A = some ⟨b, off, none⟩ ∧ b < B ∧ l[k]? = some x ∧ w.cell? ⟨b, off + k * 2, none⟩ = some (.int .i64 x.num) ∧ w.cell? ⟨b, off + k * 2 + 1, none⟩ = some (.int .i64 x.den) := by
  obtain ⟨A, cap, e, h1, h2, h3⟩ := h
  refine ⟨A, cap, e, h1, h2, fun k hk => ?_⟩
  obtain ⟨b, off, e2, hb, hc⟩ := h3 (by omega)
  have hx := List.getElem?_eq_getElem hk
  exact ⟨b, off, l[k], e2, hb, hx, hc k _ hx 0 _ rfl, hc k _ hx 1 _ rfl⟩
def levelsI (l : List Rt) : Int := if l.all levelB then 0 else 1
set_option maxRecDepth 100000 in
theorem checkLevels_c (l : List Rt) (v : Value) (w : World) (hv : Rts w w.heap.size v l) :
    Calls Try.prog 114 #[v] w fun e w' => e = .returned (.int .i64 (levelsI l)) ∧ Below w.heap.size w w' := by
  obtain ⟨A, cap, rfl, hcap, hn, hat⟩ := hv.open_
  have H := Lib.hid hat
  clear hat hv
  go_enter Try.func114, Try.ntmps114
  go_wp2_with fail
  go_loopw [7] (fun i wr => ∃ j : Nat, j ≤ l.length ∧ i = .int .i64 j ∧ Hid ((l.take j).all levelB = true) ∧ Below w.heap.size w wr) (fun i _ => l.length - (intOf i).toNat)
  case atStart => exact ⟨0, by omega, rfl, Lib.hid rfl, Below.refl _ _⟩
  case round =>
    obtain ⟨j, hj, rfl, hall, hb⟩ := hrel
    have hws := hb.size
    by_cases hlt : j < l.length
    · obtain ⟨b, off, x, rfl, hbw, hx, c0, c1⟩ := H.out j hlt
      have k0 : wr.cell? ⟨b, off + j * 2, none⟩ = some (.int .i64 x.num) := (hb.cell (p := ⟨b, off + j * 2, none⟩) hbw).trans c0
      have k1 : wr.cell? ⟨b, off + j * 2 + 1, none⟩ = some (.int .i64 x.den) := (hb.cell (p := ⟨b, off + j * 2 + 1, none⟩) hbw).trans c1
      have hz : b < wr.heap.size := by omega
      have hst := Lib.hid (take_snoc hx)
      have hxm := Lib.hid (List.mem_of_getElem? hx)
      clear c0 c1 hx
      go_wp2_with fail
      refine (levelP_c x _).mono ?_
      rintro e w1 ⟨rfl, hb1⟩
      rcases Bool.eq_false_or_eq_true (levelB x) with hl | hl
      · rw [hl]
        have hl' := Lib.hid hl
        clear hl
        go_wp2_with fail
        go_roundw
        case rel => exact ⟨j + 1, by omega, by go_num, Lib.hid (by rw [hst.out, List.all_append, hall.out]; simp [hl'.out]), below_then hb (below_then (below_alloc _ _) hb1)⟩
        case measure => simp [intOf]; omega
      · rw [hl]
        have hl' := Lib.hid hl
        clear hl
        go_wp2_with fail
        go_ret
        refine ⟨ret_int ?_, below_then hb (below_then (below_alloc _ _) hb1)⟩
        unfold levelsI
        rw [if_neg]
        intro h
        have := List.all_eq_true.1 h x hxm.out
        rw [hl'.out] at this; cases this
    · obtain rfl : j = l.length := by omega
      go_wp2_with fail
      go_ret
      refine ⟨ret_int ?_, hb⟩
      have := hall.out
      rw [List.take_length] at this
      unfold levelsI; rw [if_pos this]
theorem smallB_eq (n g m : Int) (a r : Rt) : smallB n g m a r = (inI n 1 50 && inI m 0 n && inI g 0 (m - 1) && (levelB a && levelB r)) := by
  rw [Bool.eq_iff_iff]
  simp only [smallB, inI, Bool.and_eq_true, Bool.not_eq_true', decide_eq_true_eq, decide_eq_false_iff_not]
  constructor
  · rintro ⟨⟨⟨⟨⟨h1, h2⟩, h3⟩, h4⟩, h5⟩, h6⟩; exact ⟨⟨⟨h1, by omega⟩, by omega⟩, h5, h6⟩
  · rintro ⟨⟨⟨h1, h2⟩, h3⟩, h5, h6⟩; exact ⟨⟨⟨⟨⟨h1, by omega⟩, by omega⟩, by omega⟩, h5⟩, h6⟩
/-- A plan that accepts the good batch too seldom. -/
def fewB (n g : Int) (a : Rt) (s k : Nat) : Prop := ¬ chooseI n s * a.num ≤ atMostI n g s k * a.den
theorem few_tells {n g m : Int} {a r : Rt} {s k : Nat} (h : fewB n g a s k) : tellsB n g m a r s k = false := by
  unfold tellsB; rw [decide_eq_false h, Bool.false_and]
theorem few_row {n g m : Int} {a r : Rt} {s : Nat} (h0 : (plans s 0).find? (fun x => tellsB n g m a r x.1 x.2) = none) : ∀ {l : Nat}, (∀ k, k < l → fewB n g a s k) → (plans s l).find? (fun x => tellsB n g m a r x.1 x.2) = none
  | 0, _ => h0
  | l + 1, h => by
    rw [plans_next]
    exact find_no (few_row h0 fun k hk => h k (by omega)) (few_tells (h l (by omega)))
theorem few_next {n g : Int} {a : Rt} {s k : Nat} (hg0 : 0 ≤ g) (hg : g ≤ n) (hs : (s : Int) < n) (hk : k ≤ s) (ha : 0 ≤ a.den) (h : fewB n g a s k) : fewB n g a (s + 1) k := by
  unfold fewB at *
  have := few_stays (n := n) (m := g) (s := s) (k := k) (r := a) hg0 hg (by omega) hs (by omega) (by omega) ha (by omega)
  rw [show ((s + 1 : Nat) : Int) = (s : Int) + 1 by omega]
  omega
theorem few_all {n g : Int} {a : Rt} {s : Nat} (hg0 : 0 ≤ g) (hg : g ≤ n) (ha : a.num ≤ a.den) : ¬ fewB n g a s s := by
  unfold fewB
  intro h
  apply h
  obtain ⟨g, rfl⟩ := Int.eq_ofNat_of_zero_le hg0
  obtain ⟨n, rfl⟩ := Int.eq_ofNat_of_zero_le (by omega : 0 ≤ n)
  have e : atMostI n g s s = chooseI n s := by
    unfold atMostI
    rw [show (min (s : Int) s + 1).toNat = s + 1 by omega, hits_all (by omega)]
    unfold chooseI; rw [Int.toNat_natCast, Int.toNat_natCast]
  rw [e]
  exact Int.mul_le_mul_of_nonneg_left ha (chooseI_nonneg _ _)
/-- A plan that accepts the bad batch too often: so do those with a greater number. -/
theorem often_row {n g m : Int} {a r : Rt} {s k : Nat} (hr : 0 ≤ r.den) (hn : (plans s k).find? (fun x => tellsB n g m a r x.1 x.2) = none) (h : ¬ atMostI n m s k * r.den ≤ chooseI n s * r.num) :
    ∀ d, (plans s (k + d)).find? (fun x => tellsB n g m a r x.1 x.2) = none
  | 0 => hn
  | d + 1 => by
    rw [← Nat.add_assoc, plans_next]
    refine find_no (often_row hr hn h d) ?_
    unfold tellsB
    rw [Bool.and_eq_false_iff]
    right
    refine decide_eq_false fun h2 => h ?_
    have := atMost_mono (n := n) (m := m) (t := s) (k := k) (l := ((k + d : Nat) : Int)) (by omega)
    have := Int.mul_le_mul_of_nonneg_right this hr
    exact Int.le_trans this h2
end Go.Proofs.Ytaaeipjnhjgjdaa
/- Smallest, by package sample. -/
namespace Go.Proofs.Ytaaeipjnhjgjdaa
open Go Go.RowKit Go.Shelf

set_option maxRecDepth 100000 in
set_option maxHeartbeats 4000000 in
theorem Smallest_c (n d m : Int) (a r : Rt) (w : World) :
    Calls Try.prog 50 #[.int .i64 n, .int .i64 d, .int .i64 m, rtV a, rtV r] w fun e w' => e = .returned (.tuple #[trV (smallestR n d m a r).1, .int .i64 (smallestR n d m a r).2]) ∧ Below w.heap.size w w' := by
  obtain ⟨q0, q1, q2, qs, qb⟩ := three_new w (.cells #[.int .i64 a.num, .int .i64 a.den] 53) (.cells #[.int .i64 r.num, .int .i64 r.den] 53) (.cells #[.int .i64 0, .int .i64 0] 80)
  have QS := Lib.hid qs
  have QB := Lib.hid qb
  have Q0 := Lib.hid q0
  have Q1 := Lib.hid q1
  have Q2 := Lib.hid q2
  clear qb q0 q1 q2 qs
  have hsB := Lib.hid (smallB_eq n d m a r)
  unfold rtV
  rcases Bool.eq_false_or_eq_true (inI n 1 50 && inI m 0 n) with h | h
  · rcases Bool.eq_false_or_eq_true (inI d 0 (m - 1)) with hg | hg
    · have hn : (1 ≤ n ∧ n ≤ 50) ∧ 0 ≤ m ∧ m ≤ n := by simpa [inI] using h
      have hgm : 0 ≤ d ∧ d ≤ m - 1 := by simpa [inI] using hg
      obtain ⟨⟨n1, n2⟩, m1, m2⟩ := hn
      obtain ⟨g1, g2⟩ := hgm
      rcases Bool.eq_false_or_eq_true (levelB a && levelB r) with hl | hl
      · have hB : smallB n d m a r = true := by rw [hsB.out, h, hg, hl]; rfl
        have HB := Lib.hid hB
        have hl1 := (Bool.and_eq_true _ _ ▸ hl : levelB a = true ∧ levelB r = true)
        obtain ⟨a1, a2, a3, a4⟩ := level_ok hl1.1
        obtain ⟨r1, r2, r3, r4⟩ := level_ok hl1.2
        have hlv : levelsI [a, r] = 0 := by unfold levelsI; rw [if_pos (by simp [hl1.1, hl1.2])]
        have H := Lib.hid h
        have HG := Lib.hid hg
        have HL := Lib.hid hlv
        clear h hg hl hl1 hB hlv
        go_enter Try.func50, Try.ntmps50
        go_wp2_with fail
        go_step3
        go_wp2_with fail
        refine (badP_c _ _ _ _).mono ?_
        rintro e w' ⟨rfl, rfl⟩
        rw [H.out]
        go_wp2_with fail
        refine (within_c _ _ _ _).mono ?_
        rintro e w' ⟨rfl, rfl⟩
        rw [HG.out]
        go_wp2_with fail
        generalize ((w.alloc (.cells #[.int .i64 a.num, .int .i64 a.den] 53)).alloc (.cells #[.int .i64 r.num, .int .i64 r.den] 53)).alloc (.cells #[.int .i64 0, .int .i64 0] 80) = W1 at Q0 Q1 Q2 QS QB ⊢
        refine (checkLevels_c [a, r] _ _ (laid rtC_len W1 [a, r] _ _ _ _ rfl (by simp) (by rw [QS.out]) rfl)).mono ?_
        rintro e w2 ⟨rfl, hb2⟩
        rw [HL.out]
        have hB2 := below_then (below_alloc W1 (.cells #[.int .i64 a.num, .int .i64 a.den, .int .i64 r.num, .int .i64 r.den] 53)) hb2
        clear hb2
        go_wp2_with fail
        refine (passing_c _ _ _).mono ?_
        rintro e w3 ⟨rfl, rfl⟩
        obtain ⟨p0, p1, ps, pb⟩ := two_new w2 (.cells #[.int .i64 n] 3) (.cells #[.int .i64 d] 3)
        generalize (w2.alloc (.cells #[.int .i64 n] 3)).alloc (.cells #[.int .i64 d] 3) = W3 at p0 p1 ps pb ⊢
        go_wp2_with fail
        refine (passing_c _ _ _).mono ?_
        rintro e w4 ⟨rfl, rfl⟩
        obtain ⟨o0, o1, os, ob⟩ := two_new W3 (.cells #[.int .i64 n] 3) (.cells #[.int .i64 m] 3)
        generalize (W3.alloc (.cells #[.int .i64 n] 3)).alloc (.cells #[.int .i64 m] 3) = W4 at o0 o1 os ob ⊢
        have z24 := below_then pb ob
        have k0 := (ob.block _ (size_of_block p0)).trans p0
        have k1 := (ob.block _ (size_of_block p1)).trans p1
        have hB4 := below_then hB2 z24
        have b0 := (hB4.block _ (by have := QS.out; omega)).trans Q0.out
        have b1 := (hB4.block _ (by have := QS.out; omega)).trans Q1.out
        have b2 := (hB4.block _ (by have := QS.out; omega)).trans Q2.out
        have hBw := Lib.hid (below_then QB.out hB4)
        have y0 := size_of_block b0
        have y1 := size_of_block b1
        have y2 := size_of_block b2
        have x0 := size_of_block k0
        have x1 := size_of_block k1
        have x2 := size_of_block o0
        have x3 := size_of_block o1
        clear hB2 pb ob z24 p0 p1 hB4 Q0 Q1 Q2 ps os
        go_wp2_with fail
        go_step3
        go_wp2_with fail
        have hb5 := below_alloc W4 (.cells #[.int .i64 0, .int .i64 0] 80)
        have b3 := heap_alloc_new W4 (.cells #[.int .i64 0, .int .i64 0] 80)
        generalize W4.alloc (.cells #[.int .i64 0, .int .i64 0] 80) = W5 at hb5 b3 ⊢
        replace b0 := (hb5.block _ y0).trans b0
        replace b1 := (hb5.block _ y1).trans b1
        replace b2 := (hb5.block _ y2).trans b2
        replace k0 := (hb5.block _ x0).trans k0
        replace k1 := (hb5.block _ x1).trans k1
        replace o0 := (hb5.block _ x2).trans o0
        replace o1 := (hb5.block _ x3).trans o1
        have hBw5 := Lib.hid (below_then hBw.out hb5)
        have Z := Lib.hid hb5.size
        generalize W4.heap.size = pB at *
        clear hBw hb5
        have et : ∀ args w, (callFunc 143 args).run Try.prog w = .ok (.enter 143 args) w := enters_of Try.func143 (by kernel_rfl) rfl
        have h0 : 0 ≤ d ∧ d ≤ n := by omega
        obtain ⟨d1, d2⟩ := h0
        go_loopg [15, 16, 48] (n.toNat + 1) (fun gh s15 s16 s48 wr => ∃ s l : Nat, s + gh = n.toNat + 1 ∧ s15 = .int .i64 5 ∧ s16 = .int .i64 l ∧ s48 = .int .i64 s ∧ l ≤ s ∧ Hid ((plans s 0).find? (fun x => tellsB n d m a r x.1 x.2) = none) ∧ Hid ((s : Int) ≤ n → ∀ k, k < l → fewB n d a s k) ∧ Below W5.heap.size W5 wr)
        case atStart => exact ⟨0, 0, by omega, rfl, rfl, rfl, by omega, Lib.hid rfl, Lib.hid (fun _ k hk => by omega), Below.refl _ _⟩
        case round =>
          obtain ⟨s, l, hsg, rfl, rfl, rfl, hls, hnone, hfew, hb⟩ := hrel
          cases gk with
          | zero =>
            have hsn : ¬ ((s : Int) < n + 1) := by omega
            have hs1 : s = n.toNat + 1 := by omega
            have hres : smallestR n d m a r = (⟨0, 0⟩, 5) := smallest_none HB.out (by unfold smallestP; rw [← hs1]; exact hnone.out)
            have HR := Lib.hid hres
            have c3 := (hb.block _ (size_of_block b3)).trans b3
            have c2 := (hb.block _ (size_of_block b2)).trans b2
            have e30 := Joins.cell_of_block c3 0
            have e31 := Joins.cell_of_block c3 1
            have e20 := Joins.cell_of_block c2 0
            have e21 := Joins.cell_of_block c2 1
            have f20 := Joins.unfrozen_of_block c2 0
            have f21 := Joins.unfrozen_of_block c2 1
            have hz3 := size_of_block c3
            have hz2 := size_of_block c2
            have HP := Lib.hid (put2 (.int .i64 0) (.int .i64 0) c2)
            have hBf := Lib.hid (below_then hBw5.out hb)
            clear hs1 hres
            go_wp2_with fail
            try rw [Exit.noGoto_ret]
            refine bodyPost_ret (v := .tuple #[trV ⟨0, 0⟩, .int .i64 5]) ?_ rfl ⟨by rw [HR.out], (hBf.out.setCell (by simp; omega) _).setCell (by simp; omega) _⟩
            simp [trV, results, Try.results50, go_sem, HP.out.1, HP.out.2]
          | succ gh =>
            have hsn : (s : Int) ≤ n := by omega
            have hsn2 : (s : Int) < n + 1 := by omega
            go_wp2_with fail
            obtain ⟨wo, rfl⟩ : ∃ wo : World, wo = wr := ⟨_, rfl⟩
            go_loopg [15, 16, 18] (s + 1 - l) (fun g2 s15 s16 s18 wy => ∃ k : Nat, k + g2 = s + 1 ∧ s15 = .int .i64 5 ∧ s16 = .int .i64 l ∧ s18 = .int .i64 k ∧ l ≤ k ∧ Hid ((plans s k).find? (fun x => tellsB n d m a r x.1 x.2) = none) ∧ Hid (∀ k', k' < k → fewB n d a s k') ∧ Below W5.heap.size W5 wy)
            case atStart => exact ⟨l, by omega, rfl, rfl, rfl, by omega, Lib.hid (few_row hnone.out (hfew.out hsn)), Lib.hid (hfew.out hsn), hb⟩
            case round =>
              obtain ⟨k, hkg, rfl, rfl, rfl, hlk, hpk, hfk, hbk⟩ := hrel
              cases gk with
              | zero => exact absurd (hfk.out s (by omega)) (few_all d1 d2 a4)
              | succ gi =>
                have hks : (k : Int) ≤ (s : Int) := by omega
                have yk0 := (hbk.block _ (size_of_block k0)).trans k0
                have yk1 := (hbk.block _ (size_of_block k1)).trans k1
                have yo0 := (hbk.block _ (size_of_block o0)).trans o0
                have yo1 := (hbk.block _ (size_of_block o1)).trans o1
                have yb0 := (hbk.block _ (size_of_block b0)).trans b0
                have yb1 := (hbk.block _ (size_of_block b1)).trans b1
                have yb2 := (hbk.block _ (size_of_block b2)).trans b2
                have yb3 := (hbk.block _ (size_of_block b3)).trans b3
                have aT := below_alloc wr (.cells #[.int .i64 s, .int .i64 k] 80)
                have nT := heap_alloc_new wr (.cells #[.int .i64 s, .int .i64 k] 80)
                go_wp2_with fail
                generalize wr.alloc (.cells #[.int .i64 s, .int .i64 k] 80) = W6 at aT nT ⊢
                have x6 := below_then hbk aT
                have t0 := Joins.cell_of_block nT 0
                have t1 := Joins.cell_of_block nT 1
                have zT := size_of_block nT
                have u0 := (aT.block _ (size_of_block yb0)).trans yb0
                have u1 := (aT.block _ (size_of_block yb1)).trans yb1
                have v00 := Joins.cell_of_block u0 0
                have v01 := Joins.cell_of_block u0 1
                have v10 := Joins.cell_of_block u1 0
                have v11 := Joins.cell_of_block u1 1
                have zu0 := size_of_block u0
                have zu1 := size_of_block u1
                have qk0 := (aT.block _ (size_of_block yk0)).trans yk0
                have qk1 := (aT.block _ (size_of_block yk1)).trans yk1
                have qo0 := (aT.block _ (size_of_block yo0)).trans yo0
                have qo1 := (aT.block _ (size_of_block yo1)).trans yo1
                have CG : ∀ g : Gr W6, Calls Try.prog 143 (#[] ++ #[trV ⟨(s : Int), (k : Int)⟩] ++ #[.pointer (some ⟨w2.heap.size, 0, none⟩), .pointer (some ⟨w2.heap.size + 1, 0, none⟩)]) g.val fun e w' => e = .returned (fewV n s k d) ∧ Below g.val.heap.size g.val w' := fun g =>
                  passing1_c n d ⟨(s : Int), (k : Int)⟩ d1 d2 n2 (by simp only; omega) (by simp only; omega) (Joins.cell_of_block ((g.b.block _ (size_of_block qk0)).trans qk0) 0) (Joins.cell_of_block ((g.b.block _ (size_of_block qk1)).trans qk1) 0) (size_of_block ((g.b.block _ (size_of_block qk0)).trans qk0)) (size_of_block ((g.b.block _ (size_of_block qk1)).trans qk1))
                have al := atMost_le d1 d2 (show 0 ≤ (s : Int) by omega) (k : Int)
                obtain ⟨al1, al2⟩ := al
                have cl := chooseI_le (s : Int) n2
                have cn := chooseI_nonneg n (s : Int)
                have hsn3 : (s : Int) ≤ n := hsn
                have key : (decide (chooseI n s * a.num ≤ atMostI n d s k * a.den) = true ∧ ¬ fewB n d a s k) ∨ (decide (chooseI n s * a.num ≤ atMostI n d s k * a.den) = false ∧ fewB n d a s k) := by
                  unfold fewB
                  by_cases hh : chooseI n s * a.num ≤ atMostI n d s k * a.den
                  · exact .inl ⟨decide_eq_true hh, fun h => h hh⟩
                  · exact .inr ⟨decide_eq_false hh, hh⟩
                clear aT u0 qk0 qk1 yb0 yb1 yk0 yk1
                rcases key with ⟨kd, kf⟩ | ⟨kd, kf⟩
                · have KF := Lib.hid kf
                  clear kf
                  refine wp_region_grown (by kernel_rfl) (by kernel_rfl) fun hcg => ?_
                  repeat (go_big_quiet_step (fail))
                  refine wpQuiet_value (.tmp 60) (.tmp 61) _ 143 #[] #[.pointer (some ⟨w2.heap.size, 0, none⟩), .pointer (some ⟨w2.heap.size + 1, 0, none⟩)] (trV ⟨(s : Int), (k : Int)⟩) (fewV n s k d) rfl rfl rfl rfl et CG ?_
                  simp only [Act.put, List.setIfInBounds_toArray, List.set_cons_succ, List.set_cons_zero]
                  repeat (go_big_quiet_step (first | (go_at_call 110; exact Calls.grown (atLeast_c _ _ a _ (by omega) (by omega) (by omega) (by omega) (by omega) (by omega) (by omega) (by omega)))))
                  refine wpQuiet_nil ?_
                  intro _ hw'
                  obtain ⟨ga, hw''⟩ := hw'
                  subst hw''
                  clear hcg t0 t1 v00 v01 v10 v11 zu0
                  have gb := ga.b
                  generalize ga.val = W7 at gb ⊢
                  have nTg := (gb.block _ zT).trans nT
                  have u1g := (gb.block _ zu1).trans u1
                  have t0 := Joins.cell_of_block nTg 0
                  have t1 := Joins.cell_of_block nTg 1
                  have v10 := Joins.cell_of_block u1g 0
                  have v11 := Joins.cell_of_block u1g 1
                  have zTg := size_of_block nTg
                  have zu1g := size_of_block u1g
                  have qo0g := (gb.block _ (size_of_block qo0)).trans qo0
                  have qo1g := (gb.block _ (size_of_block qo1)).trans qo1
                  have x7 := below_then x6 gb
                  clear nT u1 zT zu1 qo0 qo1 CG al1 al2 kd
                  have CG2 : ∀ g : Gr W7, Calls Try.prog 143 (#[] ++ #[trV ⟨(s : Int), (k : Int)⟩] ++ #[.pointer (some ⟨W3.heap.size, 0, none⟩), .pointer (some ⟨W3.heap.size + 1, 0, none⟩)]) g.val fun e w' => e = .returned (fewV n s k m) ∧ Below g.val.heap.size g.val w' := fun g =>
                    passing1_c n m ⟨(s : Int), (k : Int)⟩ m1 m2 n2 (by simp only; omega) (by simp only; omega) (Joins.cell_of_block ((g.b.block _ (size_of_block qo0g)).trans qo0g) 0) (Joins.cell_of_block ((g.b.block _ (size_of_block qo1g)).trans qo1g) 0) (size_of_block ((g.b.block _ (size_of_block qo0g)).trans qo0g)) (size_of_block ((g.b.block _ (size_of_block qo1g)).trans qo1g))
                  have bl := atMost_le m1 m2 (show 0 ≤ (s : Int) by omega) (k : Int)
                  obtain ⟨bl1, bl2⟩ := bl
                  have key2 : (decide (atMostI n m s k * r.den ≤ chooseI n s * r.num) = true ∧ tellsB n d m a r s k = true) ∨ (decide (atMostI n m s k * r.den ≤ chooseI n s * r.num) = false ∧ ¬ atMostI n m s k * r.den ≤ chooseI n s * r.num) := by
                    by_cases hh : atMostI n m s k * r.den ≤ chooseI n s * r.num
                    · refine .inl ⟨decide_eq_true hh, ?_⟩
                      unfold tellsB
                      rw [decide_eq_true hh, Bool.and_true]
                      exact decide_eq_true (Decidable.not_not.1 KF.out)
                    · exact .inr ⟨decide_eq_false hh, hh⟩
                  clear nTg qo0g qo1g u1g
                  go_wp2_with fail
                  rcases key2 with ⟨kd, kt⟩ | ⟨kd, kt⟩
                  · have KT := Lib.hid kt
                    clear kt
                    have CM : ∀ u : World, Calls Try.prog 116 #[fewV n s k m, .agg #[.int .i64 r.num, .int .i64 r.den]] u fun e w' => e = .returned (.bool true) ∧ Below u.heap.size u w' := fun u => by
                      have := atMostP_c (atMostI n m s k) (chooseI n s) r u (by omega) (by omega) (by omega) (by omega) (by omega) (by omega) (by omega) (by omega)
                      rw [kd] at this; exact this
                    refine wp_region_grown (by kernel_rfl) (by kernel_rfl) fun hcg => ?_
                    repeat (go_big_quiet_step (fail))
                    refine wpQuiet_value (.tmp 66) (.tmp 67) _ 143 #[] #[.pointer (some ⟨W3.heap.size, 0, none⟩), .pointer (some ⟨W3.heap.size + 1, 0, none⟩)] (trV ⟨(s : Int), (k : Int)⟩) (fewV n s k m) rfl rfl rfl rfl et CG2 ?_
                    simp only [Act.put, List.setIfInBounds_toArray, List.set_cons_succ, List.set_cons_zero]
                    repeat (go_big_quiet_step (first | (go_at_call 116; exact Calls.grown (CM _))))
                    refine wpQuiet_nil ?_
                    intro _ hw'
                    obtain ⟨gc, hw''⟩ := hw'
                    subst hw''
                    clear hcg v10 v11 zu1g CG2 CM
                    have gd := gc.b
                    have t0' := (gd.cell (p := ⟨wr.heap.size, 0, none⟩) zTg).trans t0
                    have t1' := (gd.cell (p := ⟨wr.heap.size, 1, none⟩) zTg).trans t1
                    have zTc : wr.heap.size < gc.val.heap.size := Nat.lt_of_lt_of_le zTg gd.size
                    generalize gc.val = W8 at gd t0' t1' zTc ⊢
                    have x8 := below_then x7 gd
                    have c3 := (x8.block _ (size_of_block b3)).trans b3
                    have c2 := (x8.block _ (size_of_block b2)).trans b2
                    have f30 := Joins.unfrozen_of_block c3 0
                    have f31 := Joins.unfrozen_of_block c3 1
                    have e30 := Joins.cell_of_block c3 0
                    have e31 := Joins.cell_of_block c3 1
                    have z3 := size_of_block c3
                    have hBf := Lib.hid (below_then hBw5.out x8)
                    have e20 := Joins.cell_of_block c2 0
                    have e21 := Joins.cell_of_block c2 1
                    have f20 := Joins.unfrozen_of_block c2 0
                    have f21 := Joins.unfrozen_of_block c2 1
                    have z2 := size_of_block c2
                    have hne : w.heap.size + 1 + 1 ≠ pB := by omega
                    have hne2 : pB ≠ w.heap.size + 1 + 1 := by omega
                    clear t0 t1 zTg
                    have hfin := Lib.hid (smallest_some HB.out (x := (s, k)) (by unfold smallestP; exact find_first (by rw [← plans_next]; exact plans_le (by omega) (by omega)) hpk.out KT.out))
                    have c9 := (block_setCell_lt (w := W8.setCell ⟨pB, 0, none⟩ (.int .i64 s)) (g := pB) (i := 1) (v := .int .i64 k) (show w.heap.size + 1 + 1 < pB by omega)).trans ((block_setCell_lt (w := W8) (g := pB) (i := 0) (v := .int .i64 s) (show w.heap.size + 1 + 1 < pB by omega)).trans c2)
                    have HP := Lib.hid (put2 (.int .i64 s) (.int .i64 k) c9)
                    go_wp2_with fail
                    try rw [Exit.noGoto_ret]
                    refine bodyPost_ret (v := .tuple #[trV ⟨(s : Int), (k : Int)⟩, .int .i64 0]) ?_ rfl ⟨by rw [hfin.out], (((hBf.out.setCell (by simp; omega) _).setCell (by simp; omega) _).setCell (by simp; omega) _).setCell (by simp; omega) _⟩
                    simp [trV, results, Try.results50, go_sem, HP.out.1, HP.out.2]
                  · have KT := Lib.hid kt
                    clear kt
                    have CM : ∀ u : World, Calls Try.prog 116 #[fewV n s k m, .agg #[.int .i64 r.num, .int .i64 r.den]] u fun e w' => e = .returned (.bool false) ∧ Below u.heap.size u w' := fun u => by
                      have := atMostP_c (atMostI n m s k) (chooseI n s) r u (by omega) (by omega) (by omega) (by omega) (by omega) (by omega) (by omega) (by omega)
                      rw [kd] at this; exact this
                    refine wp_region_grown (by kernel_rfl) (by kernel_rfl) fun hcg => ?_
                    repeat (go_big_quiet_step (fail))
                    refine wpQuiet_value (.tmp 66) (.tmp 67) _ 143 #[] #[.pointer (some ⟨W3.heap.size, 0, none⟩), .pointer (some ⟨W3.heap.size + 1, 0, none⟩)] (trV ⟨(s : Int), (k : Int)⟩) (fewV n s k m) rfl rfl rfl rfl et CG2 ?_
                    simp only [Act.put, List.setIfInBounds_toArray, List.set_cons_succ, List.set_cons_zero]
                    repeat (go_big_quiet_step (first | (go_at_call 116; exact Calls.grown (CM _))))
                    refine wpQuiet_nil ?_
                    intro _ hw'
                    obtain ⟨gc, hw''⟩ := hw'
                    subst hw''
                    clear hcg
                    go_wp2_with fail
                    go_roundg gh
                    case measure => omega
                    case rel => exact ⟨s + 1, k, by omega, rfl, rfl, by go_num, by omega, Lib.hid (by
                        have := often_row (by omega) hpk.out (Int.not_le.2 KT.out) (s + 1 - k)
                        rw [show k + (s + 1 - k) = s + 1 by omega, plans_row] at this
                        exact this), Lib.hid (fun hs' k' hk' => few_next d1 d2 (by omega) (by omega) (by omega) (hfk.out k' hk')), below_then x7 gc.b⟩
                · have KF := Lib.hid kf
                  clear kf
                  refine wp_region_grown (by kernel_rfl) (by kernel_rfl) fun hcg => ?_
                  repeat (go_big_quiet_step (fail))
                  refine wpQuiet_value (.tmp 60) (.tmp 61) _ 143 #[] #[.pointer (some ⟨w2.heap.size, 0, none⟩), .pointer (some ⟨w2.heap.size + 1, 0, none⟩)] (trV ⟨(s : Int), (k : Int)⟩) (fewV n s k d) rfl rfl rfl rfl et CG ?_
                  simp only [Act.put, List.setIfInBounds_toArray, List.set_cons_succ, List.set_cons_zero]
                  repeat (go_big_quiet_step (first | (go_at_call 110; exact Calls.grown (atLeast_c _ _ a _ (by omega) (by omega) (by omega) (by omega) (by omega) (by omega) (by omega) (by omega)))))
                  refine wpQuiet_nil ?_
                  intro _ hw'
                  obtain ⟨ga, hw''⟩ := hw'
                  subst hw''
                  clear hcg
                  go_wp2_with fail
                  go_roundg gi
                  case measure => omega
                  case rel => exact ⟨k + 1, by omega, rfl, rfl, by go_num, by omega, Lib.hid (by rw [plans_next]; exact find_no hpk.out (few_tells KF.out)), Lib.hid (fun k' hk' => by
                    rcases Nat.lt_or_ge k' k with h | h
                    · exact hfk.out k' h
                    · obtain rfl : k' = k := by omega
                      exact KF.out), below_then x6 ga.b⟩
      · have hB : smallB n d m a r ≠ true := by rw [hsB.out, h, hg, hl]; simp
        have hlv : levelsI [a, r] = 1 := by
          unfold levelsI; rw [if_neg]
          intro hh
          have h1 := List.all_eq_true.1 hh a (by simp)
          have h2 := List.all_eq_true.1 hh r (by simp)
          rw [h1, h2] at hl; cases hl
        have HR := Lib.hid (show smallestR n d m a r = (⟨0, 0⟩, 1) by unfold smallestR; rw [if_neg hB])
        have H := Lib.hid h
        have HG := Lib.hid hg
        have HL := Lib.hid hlv
        clear h hg hl hB hlv
        go_enter Try.func50, Try.ntmps50
        go_wp2_with fail
        go_step3
        go_wp2_with fail
        refine (badP_c _ _ _ _).mono ?_
        rintro e w' ⟨rfl, rfl⟩
        rw [H.out]
        go_wp2_with fail
        refine (within_c _ _ _ _).mono ?_
        rintro e w' ⟨rfl, rfl⟩
        rw [HG.out]
        go_wp2_with fail
        generalize ((w.alloc (.cells #[.int .i64 a.num, .int .i64 a.den] 53)).alloc (.cells #[.int .i64 r.num, .int .i64 r.den] 53)).alloc (.cells #[.int .i64 0, .int .i64 0] 80) = W1 at Q0 Q1 Q2 QS QB ⊢
        refine (checkLevels_c [a, r] _ _ (laid rtC_len W1 [a, r] _ _ _ _ rfl (by simp) (by rw [QS.out]) rfl)).mono ?_
        rintro e w2 ⟨rfl, hb2⟩
        rw [HL.out]
        have hB2 := below_then (below_alloc W1 (.cells #[.int .i64 a.num, .int .i64 a.den, .int .i64 r.num, .int .i64 r.den] 53)) hb2
        have c2 := (hB2.block _ (by have := QS.out; omega)).trans Q2.out
        have hBf := Lib.hid (below_then QB.out hB2)
        have f20 := Joins.unfrozen_of_block c2 0
        have f21 := Joins.unfrozen_of_block c2 1
        have e20 := Joins.cell_of_block c2 0
        have e21 := Joins.cell_of_block c2 1
        have z2 := size_of_block c2
        have HP := Lib.hid (put2 (.int .i64 0) (.int .i64 0) c2)
        clear hb2 hB2
        go_wp2_with fail
        try rw [Exit.noGoto_ret]
        refine bodyPost_ret (v := .tuple #[trV ⟨0, 0⟩, .int .i64 1]) ?_ rfl ⟨by rw [HR.out], (hBf.out.setCell (by simp; omega) _).setCell (by simp; omega) _⟩
        simp [trV, results, Try.results50, go_sem, HP.out.1, HP.out.2]
    · have hn : (1 ≤ n ∧ n ≤ 50) ∧ 0 ≤ m ∧ m ≤ n := by simpa [inI] using h
      obtain ⟨⟨n1, n2⟩, m1, m2⟩ := hn
      have hB : smallB n d m a r ≠ true := by rw [hsB.out, h, hg]; simp
      have HR := Lib.hid (show smallestR n d m a r = (⟨0, 0⟩, 1) by unfold smallestR; rw [if_neg hB])
      have H := Lib.hid h
      have HG := Lib.hid hg
      clear h hB hg
      go_enter Try.func50, Try.ntmps50
      go_wp2_with fail
      go_step3
      go_wp2_with fail
      refine (badP_c _ _ _ _).mono ?_
      rintro e w' ⟨rfl, rfl⟩
      rw [H.out]
      go_wp2_with fail
      refine (within_c _ _ _ _).mono ?_
      rintro e w' ⟨rfl, rfl⟩
      rw [HG.out]
      go_wp2_with fail
      try rw [Exit.noGoto_ret]
      refine bodyPost_ret (v := .tuple #[trV ⟨0, 0⟩, .int .i64 1]) ?_ rfl ⟨by rw [HR.out], QB.out⟩
      simp [trV, results, Try.results50, go_sem]
  · have hB : smallB n d m a r ≠ true := by rw [hsB.out, h]; simp
    have HR := Lib.hid (show smallestR n d m a r = (⟨0, 0⟩, 1) by unfold smallestR; rw [if_neg hB])
    have H := Lib.hid h
    clear h hB
    go_enter Try.func50, Try.ntmps50
    go_wp2_with fail
    go_step3
    go_wp2_with fail
    refine (badP_c _ _ _ _).mono ?_
    rintro e w' ⟨rfl, rfl⟩
    rw [H.out]
    go_wp2_with fail
    try rw [Exit.noGoto_ret]
    refine bodyPost_ret (v := .tuple #[trV ⟨0, 0⟩, .int .i64 1]) ?_ rfl ⟨by rw [HR.out], QB.out⟩
    simp [trV, results, Try.results50, go_sem]
end Go.Proofs.Ytaaeipjnhjgjdaa
