/- ShaftTakes: the walk (written by tools/genstakesl.py). -/
import Derived.Test.YtpgepfbdjefmdaaGreatJ27
import Derived.Test.YtpgepfbdjefmdaaGreatZSRefK
import Derived.Test.YtpgepfbdjefmdaaGreatZSRefTo
import Derived.Test.YtpgepfbdjefmdaaGreatZSRefTk
import Derived.Test.YtpgepfbdjefmdaaGreatZWR
import Derived.Test.YtpgepfbdjefmdaaGreatZSTakgE
namespace Go.Proofs.YtpgepfbdjefmdaaGreat
open Go Go.RowKit Go.Shelf
attribute [local go_sem] Oper.semAt_some Rel RelAt RelUpon

theorem Tryz.fieldKept2 (a b c : Value) (w : World) : (Instr.field 42 (.agg #[a, b, c]) 1).run Tryz.prog w = .ok b w := by kernel_rfl
theorem Tryz.neSp1 (a b c d : Int) (w : World) : (binOp .neq 63 (.agg #[.int .i64 a, .int .i64 b]) (.agg #[.int .i64 c, .int .i64 d])).run Tryz.prog w = .ok (.bool (!(a == c && b == d))) w := (Tryz.eqOf1 (Tryz.inSp1 a b c d w 9998)).2
theorem Taking_no (k : Kl) (v : Value) (d l : Int) (w : World) (hv : Kiln w v k) (h : (tookE k d l).2 ≠ 0) : Calls Tryz.prog 47 #[v, .int .i64 d, .int .i64 l] w fun e w' => ∃ F1 f1 F2 f2 G1 g1 G2 g2, e = .returned (.tuple #[.agg #[.slice F1 0 f1, .slice F2 0 f2], .agg #[.slice G1 0 g1, .slice G2 0 g2], .int .i64 (tookE k d l).2]) ∧ Below w.heap.size w w' := by
  refine (Taking_c k v d l w hv).mono ?_
  rintro e w' ⟨u1, tl1, td1, u2, tl2, td2, rfl, ⟨o1, o2⟩, ⟨_, h2⟩, hb⟩
  obtain ⟨rfl, rfl, rfl, rfl⟩ := h2 h
  obtain ⟨A, c, A2, c2, rfl⟩ := o1.form
  obtain ⟨B, d, B2, d2, rfl⟩ := o2.form
  exact ⟨A, c, A2, c2, B, d, B2, d2, rfl, hb⟩
theorem Taking_ok (k : Kl) (v : Value) (d l : Int) (w : World) (hv : Kiln w v k) (h : (tookE k d l).2 = 0) : Calls Tryz.prog 47 #[v, .int .i64 d, .int .i64 l] w fun e w' => ∃ F1 f1 F2 f2 G1 g1 G2 g2 tl td sl sd, e = .returned (.tuple #[.agg #[.slice F1 (tl : List Int).length f1, .slice F2 (td : List Int).length f2], .agg #[.slice G1 (sl : List Int).length g1, .slice G2 (sd : List Int).length g2], .int .i64 0]) ∧
    (w'.ownsRow w.heap.size 3 1 (.slice F1 tl.length f1) tl.length (tl.map (Value.int .i64)) ∧ w'.ownsRow w.heap.size 3 1 (.slice F2 td.length f2) td.length (td.map (Value.int .i64)) ∧ w'.ownsRow w.heap.size 3 1 (.slice G1 sl.length g1) sl.length (sl.map (Value.int .i64)) ∧ w'.ownsRow w.heap.size 3 1 (.slice G2 sd.length g2) sd.length (sd.map (Value.int .i64)) ∧
      (True_ k tl td ∧ tk (hgt k.ls.length tl td) (loadP (place k.ls l)) (drawP k (place k.ds d)) = (tookE k d l).1.1) ∧ True_ k sl sd ∧ tk (hgt k.ls.length sl sd) (loadP (place k.ls l)) (drawP k (place k.ds d)) = (tookE k d l).1.2) ∧ Below w.heap.size w w' := by
  refine (Taking_c k v d l w hv).mono ?_
  rintro e w' ⟨u1, tl1, td1, u2, tl2, td2, rfl, ⟨o1, o2⟩, ⟨h1, _⟩, hb⟩
  obtain ⟨A, c, A2, c2, rfl⟩ := o1.form
  obtain ⟨B, d, B2, d2, rfl⟩ := o2.form
  obtain ⟨a, b, e9, h3, h4⟩ := o1
  obtain ⟨rfl, rfl⟩ : .slice A tl1.length c = a ∧ .slice A2 td1.length c2 = b := by simpa using e9
  obtain ⟨a, b, e9, h5, h6⟩ := o2
  obtain ⟨rfl, rfl⟩ : .slice B tl2.length d = a ∧ .slice B2 td2.length d2 = b := by simpa using e9
  exact ⟨A, c, A2, c2, B, d, B2, d2, tl1, td1, tl2, td2, by rw [h], ⟨h3, h4, h5, h6, h1 h⟩, hb⟩
set_option maxRecDepth 100000 in
set_option maxHeartbeats 8000000 in
theorem STakes_no (rm pr : Int) (A1 : Option Addr) (n1 c1 : Nat) (A2 : Option Addr) (n2 c2 : Nat) (A3 : Option Addr) (n3 c3 : Nat) (d l : Int) (w : World) (h : fewB3 n1 n2 n3 = false) : Calls Tryz.prog 7 #[.agg #[.int .i64 rm, .int .i64 pr, .slice A1 n1 c1, .slice A2 n2 c2, .slice A3 n3 c3], .int .i64 d, .int .i64 l] w fun e w' => e = .returned (.bool true) ∧ Below w.heap.size w w' := by
  go_enter Tryz.func7, Tryz.ntmps7
  have bk := heap_alloc_new w (.cells #[.int .i64 rm, .int .i64 pr, .slice A1 n1 c1, .slice A2 n2 c2, .slice A3 n3 c3] 26)
  have HB := below_alloc w (.cells #[.int .i64 rm, .int .i64 pr, .slice A1 n1 c1, .slice A2 n2 c2, .slice A3 n3 c3] 26)
  have cbk0 := Joins.cell_of_block bk 0
  have cbk1 := Joins.cell_of_block bk 1
  have cbk2 := Joins.cell_of_block bk 2
  have cbk3 := Joins.cell_of_block bk 3
  have cbk4 := Joins.cell_of_block bk 4
  have zbk := size_of_block bk
  go_wp2_with fail
  generalize (w.alloc (.cells #[.int .i64 rm, .int .i64 pr, .slice A1 n1 c1, .slice A2 n2 c2, .slice A3 n3 c3] 26)) = w1 at bk HB cbk0 cbk1 cbk2 cbk3 cbk4 zbk ⊢
  have hB := HB
  clear HB
  refine (lfew_c rm pr A1 A2 A3 n1 c1 n2 c2 n3 c3 _).mono ?_
  rintro e w2 ⟨rfl, hF⟩
  clear cbk0 cbk1 cbk2 cbk3 cbk4 zbk
  replace bk := (hF.block _ (size_of_block bk)).trans bk
  replace hB := below_then hB hF
  clear hF
  rw [h]
  go_wp2_with fail
  refine (sanity_c _).mono ?_
  rintro e w3 ⟨rfl, hF⟩
  replace bk := (hF.block _ (size_of_block bk)).trans bk
  replace hB := below_then hB hF
  clear hF
  go_wp2_with fail
  go_ret
  exact ⟨rfl, hB⟩
set_option maxRecDepth 100000 in
set_option maxHeartbeats 8000000 in
theorem STakes_bad (k : Kl) (A1 A2 A3 : Option Addr) (c1 c2 c3 : Nat) (d l : Int) (w : World) (hk : Kiln w (.agg #[.int .i64 k.room, .int .i64 k.per, .slice A1 k.ls.length c1, .slice A2 k.ds.length c2, .slice A3 k.ws.length c3]) k) (hf : fewB3 k.ls.length k.ds.length k.ws.length = true) (h0 : (tookE k d l).2 ≠ 0) : Calls Tryz.prog 7 #[.agg #[.int .i64 k.room, .int .i64 k.per, .slice A1 k.ls.length c1, .slice A2 k.ds.length c2, .slice A3 k.ws.length c3], .int .i64 d, .int .i64 l] w fun e w' => e = .returned (.bool true) ∧ Below w.heap.size w w' := by
  have yP := fun W h => Took_c k (.agg #[.int .i64 k.room, .int .i64 k.per, .slice A1 k.ls.length c1, .slice A2 k.ds.length c2, .slice A3 k.ws.length c3]) d l W h
  have yQ := fun W h => rTook_c k (.agg #[.int .i64 k.room, .int .i64 k.per, .slice A1 k.ls.length c1, .slice A2 k.ds.length c2, .slice A3 k.ws.length c3]) d l W h
  have yT := fun W h => Taking_no k (.agg #[.int .i64 k.room, .int .i64 k.per, .slice A1 k.ls.length c1, .slice A2 k.ds.length c2, .slice A3 k.ws.length c3]) d l W h h0
  obtain ⟨TA, h9⟩ : ∃ x, x = (tookE k d l).1.1 := ⟨_, rfl⟩
  rw [← h9] at yP yQ
  clear h9
  obtain ⟨TB, h9⟩ : ∃ x, x = (tookE k d l).1.2 := ⟨_, rfl⟩
  rw [← h9] at yP yQ
  clear h9
  obtain ⟨TE, h9⟩ : ∃ x, x = (tookE k d l).2 := ⟨_, rfl⟩
  rw [← h9] at yP yQ yT h0
  clear h9
  have d0 : (TE != 0) = true := by simpa using h0
  clear h0
  have HP := Lib.hid yP
  clear yP
  have HQ := Lib.hid yQ
  clear yQ
  have HT := Lib.hid yT
  clear yT
  have heqN := Tryz.neSp1
  have HK := Lib.hid hk
  clear hk
  go_enter Tryz.func7, Tryz.ntmps7
  have bk := heap_alloc_new w (.cells #[.int .i64 k.room, .int .i64 k.per, .slice A1 k.ls.length c1, .slice A2 k.ds.length c2, .slice A3 k.ws.length c3] 26)
  have HB := below_alloc w (.cells #[.int .i64 k.room, .int .i64 k.per, .slice A1 k.ls.length c1, .slice A2 k.ds.length c2, .slice A3 k.ws.length c3] 26)
  have cbk0 := Joins.cell_of_block bk 0
  have cbk1 := Joins.cell_of_block bk 1
  have cbk2 := Joins.cell_of_block bk 2
  have cbk3 := Joins.cell_of_block bk 3
  have cbk4 := Joins.cell_of_block bk 4
  have zbk := size_of_block bk
  go_wp2_with fail
  generalize (w.alloc (.cells #[.int .i64 k.room, .int .i64 k.per, .slice A1 k.ls.length c1, .slice A2 k.ds.length c2, .slice A3 k.ws.length c3] 26)) = w1 at bk HB cbk0 cbk1 cbk2 cbk3 cbk4 zbk ⊢
  have hB := HB
  clear HB
  refine (lfew_c k.room k.per A1 A2 A3 k.ls.length c1 k.ds.length c2 k.ws.length c3 _).mono ?_
  rintro e w2 ⟨rfl, hF⟩
  clear cbk0 cbk1 cbk2 cbk3 cbk4 zbk
  replace bk := (hF.block _ (size_of_block bk)).trans bk
  replace hB := below_then hB hF
  clear hF
  rw [hf]
  have cbk0 := Joins.cell_of_block bk 0
  have cbk1 := Joins.cell_of_block bk 1
  have cbk2 := Joins.cell_of_block bk 2
  have cbk3 := Joins.cell_of_block bk 3
  have cbk4 := Joins.cell_of_block bk 4
  have zbk := size_of_block bk
  go_wp2_with fail
  refine (HP.out w2 (HK.out.later hB)).mono ?_
  rintro e w3 ⟨rfl, hF⟩
  clear cbk0 cbk1 cbk2 cbk3 cbk4 zbk
  replace bk := (hF.block _ (size_of_block bk)).trans bk
  replace hB := below_then hB hF
  clear hF
  have b7 := heap_alloc_new w3 (.cells #[.int .i64 TA, .int .i64 TB] 63)
  have HB := below_alloc w3 (.cells #[.int .i64 TA, .int .i64 TB] 63)
  have cbk0 := Joins.cell_of_block ((HB.block _ (size_of_block bk)).trans bk) 0
  have cbk1 := Joins.cell_of_block ((HB.block _ (size_of_block bk)).trans bk) 1
  have cbk2 := Joins.cell_of_block ((HB.block _ (size_of_block bk)).trans bk) 2
  have cbk3 := Joins.cell_of_block ((HB.block _ (size_of_block bk)).trans bk) 3
  have cbk4 := Joins.cell_of_block ((HB.block _ (size_of_block bk)).trans bk) 4
  have zbk := size_of_block bk
  go_wp2_with fail
  generalize (w3.alloc (.cells #[.int .i64 TA, .int .i64 TB] 63)) = w4 at b7 HB cbk0 cbk1 cbk2 cbk3 cbk4 ⊢
  replace bk := (HB.block _ (size_of_block bk)).trans bk
  replace hB := below_then hB HB
  clear HB
  refine (HQ.out w4 (HK.out.later hB)).mono ?_
  rintro e w5 ⟨rfl, hF⟩
  clear cbk0 cbk1 cbk2 cbk3 cbk4 zbk
  replace bk := (hF.block _ (size_of_block bk)).trans bk
  replace b7 := (hF.block _ (size_of_block b7)).trans b7
  replace hB := below_then hB hF
  clear hF
  have b9 := heap_alloc_new w5 (.cells #[.int .i64 TA, .int .i64 TB, .int .i64 TE] 67)
  have HB := below_alloc w5 (.cells #[.int .i64 TA, .int .i64 TB, .int .i64 TE] 67)
  have cbk0 := Joins.cell_of_block ((HB.block _ (size_of_block bk)).trans bk) 0
  have cbk1 := Joins.cell_of_block ((HB.block _ (size_of_block bk)).trans bk) 1
  have cbk2 := Joins.cell_of_block ((HB.block _ (size_of_block bk)).trans bk) 2
  have cbk3 := Joins.cell_of_block ((HB.block _ (size_of_block bk)).trans bk) 3
  have cbk4 := Joins.cell_of_block ((HB.block _ (size_of_block bk)).trans bk) 4
  have zbk := size_of_block bk
  go_wp2_with fail
  generalize (w5.alloc (.cells #[.int .i64 TA, .int .i64 TB, .int .i64 TE] 67)) = w6 at b9 HB cbk0 cbk1 cbk2 cbk3 cbk4 ⊢
  replace bk := (HB.block _ (size_of_block bk)).trans bk
  replace b7 := (HB.block _ (size_of_block b7)).trans b7
  replace hB := below_then hB HB
  clear HB
  refine (HT.out w6 (HK.out.later hB)).mono ?_
  rintro e w7 ⟨F1, f1, F2, f2, G1, g1, G2, g2, rfl, hF⟩
  clear cbk0 cbk1 cbk2 cbk3 cbk4 zbk
  replace bk := (hF.block _ (size_of_block bk)).trans bk
  replace b7 := (hF.block _ (size_of_block b7)).trans b7
  replace b9 := (hF.block _ (size_of_block b9)).trans b9
  replace hB := below_then hB hF
  clear hF
  obtain ⟨b10, b11, -, HB⟩ := two_new' w7 (.cells #[.slice F1 0 f1, .slice F2 0 f2] 29) (.cells #[.slice G1 0 g1, .slice G2 0 g2] 29)
  have cb70 := Joins.cell_of_block ((HB.block _ (size_of_block b7)).trans b7) 0
  have cb71 := Joins.cell_of_block ((HB.block _ (size_of_block b7)).trans b7) 1
  have zb7 := size_of_block b7
  have cb90 := Joins.cell_of_block ((HB.block _ (size_of_block b9)).trans b9) 0
  have cb91 := Joins.cell_of_block ((HB.block _ (size_of_block b9)).trans b9) 1
  have cb92 := Joins.cell_of_block ((HB.block _ (size_of_block b9)).trans b9) 2
  have zb9 := size_of_block b9
  go_wp2_with fail
  generalize ((w7.alloc (.cells #[.slice F1 0 f1, .slice F2 0 f2] 29)).alloc (.cells #[.slice G1 0 g1, .slice G2 0 g2] 29)) = w8 at b10 b11 HB cb70 cb71 cb90 cb91 cb92 ⊢
  replace bk := (HB.block _ (size_of_block bk)).trans bk
  replace b7 := (HB.block _ (size_of_block b7)).trans b7
  replace b9 := (HB.block _ (size_of_block b9)).trans b9
  replace hB := below_then hB HB
  clear HB
  refine (sanity_c _).mono ?_
  rintro e w9 ⟨rfl, hF⟩
  clear cb70 cb71 zb7 cb90 cb91 cb92 zb9
  replace bk := (hF.block _ (size_of_block bk)).trans bk
  replace b7 := (hF.block _ (size_of_block b7)).trans b7
  replace b9 := (hF.block _ (size_of_block b9)).trans b9
  replace b10 := (hF.block _ (size_of_block b10)).trans b10
  replace b11 := (hF.block _ (size_of_block b11)).trans b11
  replace hB := below_then hB hF
  clear hF
  have cb100 := Joins.cell_of_block b10 0
  have cb101 := Joins.cell_of_block b10 1
  have zb10 := size_of_block b10
  have cb110 := Joins.cell_of_block b11 0
  have cb111 := Joins.cell_of_block b11 1
  have zb11 := size_of_block b11
  go_wp2_with fail
  go_ret
  exact ⟨rfl, hB⟩
set_option maxRecDepth 100000 in
set_option maxHeartbeats 8000000 in
theorem STakes_ok (k : Kl) (A1 A2 A3 : Option Addr) (c1 c2 c3 : Nat) (d l : Int) (w : World) (hk : Kiln w (.agg #[.int .i64 k.room, .int .i64 k.per, .slice A1 k.ls.length c1, .slice A2 k.ds.length c2, .slice A3 k.ws.length c3]) k) (hf : fewB3 k.ls.length k.ds.length k.ws.length = true) (h0 : (tookE k d l).2 = 0) : Calls Tryz.prog 7 #[.agg #[.int .i64 k.room, .int .i64 k.per, .slice A1 k.ls.length c1, .slice A2 k.ds.length c2, .slice A3 k.ws.length c3], .int .i64 d, .int .i64 l] w fun e w' => e = .returned (.bool true) ∧ Below w.heap.size w w' := by
  have hc : checkI k = 0 := by
    unfold tookE at h0
    split at h0
    · rename_i h; exact absurd h0 h
    · rename_i h; simpa using h
  have h1 : ¬ (place k.ls l < 0 ∨ place k.ds d < 0) := fun h => by
    unfold tookE at h0
    rw [if_neg (show ¬ checkI k ≠ 0 by simp [hc]), if_pos h] at h0
    simp at h0
  have hR := right_of_check hc
  have HR := Lib.hid hR
  obtain ⟨x, hx⟩ := Int.eq_ofNat_of_zero_le (show 0 ≤ place k.ls l by omega)
  obtain ⟨y, hy⟩ := Int.eq_ofNat_of_zero_le (show 0 ≤ place k.ds d by omega)
  have HTB : Hid (∀ (P1 : Option Addr) (p1 : Nat) (P2 : Option Addr) (p2 : Nat) (tl td : List Int) (Z : Int), True_ k tl td → tk (hgt k.ls.length tl td) (loadP (place k.ls l)) (drawP k (place k.ds d)) = Z → ∀ W, Kiln W (.agg #[.int .i64 k.room, .int .i64 k.per, .slice A1 k.ls.length c1, .slice A2 k.ds.length c2, .slice A3 k.ws.length c3]) k → Truth W (.agg #[.slice P1 tl.length p1, .slice P2 td.length p2]) tl td →
      Calls Tryz.prog 48 #[.agg #[.int .i64 k.room, .int .i64 k.per, .slice A1 k.ls.length c1, .slice A2 k.ds.length c2, .slice A3 k.ws.length c3], .agg #[.slice P1 tl.length p1, .slice P2 td.length p2], .int .i64 d, .int .i64 l] W fun e w' => e = .returned (.int .i64 Z) ∧ Below W.heap.size W w') := Lib.hid (fun P1 p1 P2 p2 tl td Z h he W h1 h2 => by
    rw [hx, hy] at he
    subst he
    exact rTookBy_c k (.agg #[.int .i64 k.room, .int .i64 k.per, .slice A1 k.ls.length c1, .slice A2 k.ds.length c2, .slice A3 k.ws.length c3]) P1 P2 p1 p2 x y d l tl td W h1 hR h2 h.1 h.2.1 hx hy)
  have HFT : Hid (∀ (P1 : Option Addr) (p1 : Nat) (P2 : Option Addr) (p2 : Nat) (tl td : List Int), True_ k tl td → ∀ W, Kiln W (.agg #[.int .i64 k.room, .int .i64 k.per, .slice A1 k.ls.length c1, .slice A2 k.ds.length c2, .slice A3 k.ws.length c3]) k → Truth W (.agg #[.slice P1 tl.length p1, .slice P2 td.length p2]) tl td →
      Calls Tryz.prog 21 #[.agg #[.int .i64 k.room, .int .i64 k.per, .slice A1 k.ls.length c1, .slice A2 k.ds.length c2, .slice A3 k.ws.length c3], .agg #[.slice P1 tl.length p1, .slice P2 td.length p2]] W fun e w' => (∃ a c, e = .returned (.agg #[.int .i64 a, .bool true, .int .i64 c])) ∧ Below W.heap.size W w') := Lib.hid (fun P1 p1 P2 p2 tl td h W h1 h2 => by
    refine (rFits_c k (.agg #[.int .i64 k.room, .int .i64 k.per, .slice A1 k.ls.length c1, .slice A2 k.ds.length c2, .slice A3 k.ws.length c3]) _ tl td W h1 h2).mono ?_
    rintro e w' ⟨rfl, hb⟩
    exact ⟨⟨_, _, by rw [fitsB_iff.2 ⟨hc, h⟩]⟩, hb⟩)
  have HLT : Hid (∀ tl td : List Int, True_ k tl td → tl.length ≤ 100 ∧ td.length ≤ 100) := Lib.hid (fun tl td h => by
    have e1 := (wtsB_iff.1 h.1).1
    have e2 := (wtsB_iff.1 h.2.1).1
    have := hR.ls
    have := hR.ds
    omega)
  clear hc h1 hR hx hy
  have yP := fun W h => Took_c k (.agg #[.int .i64 k.room, .int .i64 k.per, .slice A1 k.ls.length c1, .slice A2 k.ds.length c2, .slice A3 k.ws.length c3]) d l W h
  have yQ := fun W h => rTook_c k (.agg #[.int .i64 k.room, .int .i64 k.per, .slice A1 k.ls.length c1, .slice A2 k.ds.length c2, .slice A3 k.ws.length c3]) d l W h
  have yT := fun W h => Taking_ok k (.agg #[.int .i64 k.room, .int .i64 k.per, .slice A1 k.ls.length c1, .slice A2 k.ds.length c2, .slice A3 k.ws.length c3]) d l W h h0
  rw [h0] at yP yQ
  obtain ⟨TA, h9⟩ : ∃ x, x = (tookE k d l).1.1 := ⟨_, rfl⟩
  rw [← h9] at yP yQ yT
  clear h9
  obtain ⟨TB, h9⟩ : ∃ x, x = (tookE k d l).1.2 := ⟨_, rfl⟩
  rw [← h9] at yP yQ yT
  clear h9
  have HP := Lib.hid yP
  clear yP
  have HQ := Lib.hid yQ
  clear yQ
  have HT := Lib.hid yT
  clear yT
  have heqN := Tryz.neSp1
  have HK := Lib.hid hk
  clear hk
  go_enter Tryz.func7, Tryz.ntmps7
  have bk := heap_alloc_new w (.cells #[.int .i64 k.room, .int .i64 k.per, .slice A1 k.ls.length c1, .slice A2 k.ds.length c2, .slice A3 k.ws.length c3] 26)
  have HB := below_alloc w (.cells #[.int .i64 k.room, .int .i64 k.per, .slice A1 k.ls.length c1, .slice A2 k.ds.length c2, .slice A3 k.ws.length c3] 26)
  have cbk0 := Joins.cell_of_block bk 0
  have cbk1 := Joins.cell_of_block bk 1
  have cbk2 := Joins.cell_of_block bk 2
  have cbk3 := Joins.cell_of_block bk 3
  have cbk4 := Joins.cell_of_block bk 4
  have zbk := size_of_block bk
  go_wp2_with fail
  generalize (w.alloc (.cells #[.int .i64 k.room, .int .i64 k.per, .slice A1 k.ls.length c1, .slice A2 k.ds.length c2, .slice A3 k.ws.length c3] 26)) = w1 at bk HB cbk0 cbk1 cbk2 cbk3 cbk4 zbk ⊢
  have hB := HB
  clear HB
  refine (lfew_c k.room k.per A1 A2 A3 k.ls.length c1 k.ds.length c2 k.ws.length c3 _).mono ?_
  rintro e w2 ⟨rfl, hF⟩
  clear cbk0 cbk1 cbk2 cbk3 cbk4 zbk
  replace bk := (hF.block _ (size_of_block bk)).trans bk
  replace hB := below_then hB hF
  clear hF
  rw [hf]
  have cbk0 := Joins.cell_of_block bk 0
  have cbk1 := Joins.cell_of_block bk 1
  have cbk2 := Joins.cell_of_block bk 2
  have cbk3 := Joins.cell_of_block bk 3
  have cbk4 := Joins.cell_of_block bk 4
  have zbk := size_of_block bk
  go_wp2_with fail
  refine (HP.out w2 (HK.out.later hB)).mono ?_
  rintro e w3 ⟨rfl, hF⟩
  clear cbk0 cbk1 cbk2 cbk3 cbk4 zbk
  replace bk := (hF.block _ (size_of_block bk)).trans bk
  replace hB := below_then hB hF
  clear hF
  have b7 := heap_alloc_new w3 (.cells #[.int .i64 TA, .int .i64 TB] 63)
  have HB := below_alloc w3 (.cells #[.int .i64 TA, .int .i64 TB] 63)
  have cbk0 := Joins.cell_of_block ((HB.block _ (size_of_block bk)).trans bk) 0
  have cbk1 := Joins.cell_of_block ((HB.block _ (size_of_block bk)).trans bk) 1
  have cbk2 := Joins.cell_of_block ((HB.block _ (size_of_block bk)).trans bk) 2
  have cbk3 := Joins.cell_of_block ((HB.block _ (size_of_block bk)).trans bk) 3
  have cbk4 := Joins.cell_of_block ((HB.block _ (size_of_block bk)).trans bk) 4
  have zbk := size_of_block bk
  go_wp2_with fail
  generalize (w3.alloc (.cells #[.int .i64 TA, .int .i64 TB] 63)) = w4 at b7 HB cbk0 cbk1 cbk2 cbk3 cbk4 ⊢
  replace bk := (HB.block _ (size_of_block bk)).trans bk
  replace hB := below_then hB HB
  clear HB
  refine (HQ.out w4 (HK.out.later hB)).mono ?_
  rintro e w5 ⟨rfl, hF⟩
  clear cbk0 cbk1 cbk2 cbk3 cbk4 zbk
  replace bk := (hF.block _ (size_of_block bk)).trans bk
  replace b7 := (hF.block _ (size_of_block b7)).trans b7
  replace hB := below_then hB hF
  clear hF
  have b9 := heap_alloc_new w5 (.cells #[.int .i64 TA, .int .i64 TB, .int .i64 0] 67)
  have HB := below_alloc w5 (.cells #[.int .i64 TA, .int .i64 TB, .int .i64 0] 67)
  have cbk0 := Joins.cell_of_block ((HB.block _ (size_of_block bk)).trans bk) 0
  have cbk1 := Joins.cell_of_block ((HB.block _ (size_of_block bk)).trans bk) 1
  have cbk2 := Joins.cell_of_block ((HB.block _ (size_of_block bk)).trans bk) 2
  have cbk3 := Joins.cell_of_block ((HB.block _ (size_of_block bk)).trans bk) 3
  have cbk4 := Joins.cell_of_block ((HB.block _ (size_of_block bk)).trans bk) 4
  have zbk := size_of_block bk
  go_wp2_with fail
  generalize (w5.alloc (.cells #[.int .i64 TA, .int .i64 TB, .int .i64 0] 67)) = w6 at b9 HB cbk0 cbk1 cbk2 cbk3 cbk4 ⊢
  replace bk := (HB.block _ (size_of_block bk)).trans bk
  replace b7 := (HB.block _ (size_of_block b7)).trans b7
  replace hB := below_then hB HB
  clear HB
  refine (HT.out w6 (HK.out.later hB)).mono ?_
  rintro e w7 ⟨F1, f1, F2, f2, G1, g1, G2, g2, tl, td, sl, sd, rfl, ⟨hO1, hO2, hO3, hO4, ⟨hT1, hK1⟩, hT2, hK2⟩, hF⟩
  clear cbk0 cbk1 cbk2 cbk3 cbk4 zbk
  replace bk := (hF.block _ (size_of_block bk)).trans bk
  replace b7 := (hF.block _ (size_of_block b7)).trans b7
  replace b9 := (hF.block _ (size_of_block b9)).trans b9
  replace hB := below_then hB hF
  clear hF
  have HT1 := Lib.hid hT1
  have HT2 := Lib.hid hT2
  have HK1 := Lib.hid hK1
  have HK2 := Lib.hid hK2
  clear hT1 hT2 hK1 hK2
  obtain ⟨b10, b11, -, HB⟩ := two_new' w7 (.cells #[.slice F1 tl.length f1, .slice F2 td.length f2] 29) (.cells #[.slice G1 sl.length g1, .slice G2 sd.length g2] 29)
  have cb70 := Joins.cell_of_block ((HB.block _ (size_of_block b7)).trans b7) 0
  have cb71 := Joins.cell_of_block ((HB.block _ (size_of_block b7)).trans b7) 1
  have zb7 := size_of_block b7
  have cb90 := Joins.cell_of_block ((HB.block _ (size_of_block b9)).trans b9) 0
  have cb91 := Joins.cell_of_block ((HB.block _ (size_of_block b9)).trans b9) 1
  have cb92 := Joins.cell_of_block ((HB.block _ (size_of_block b9)).trans b9) 2
  have zb9 := size_of_block b9
  go_wp2_with fail
  generalize ((w7.alloc (.cells #[.slice F1 tl.length f1, .slice F2 td.length f2] 29)).alloc (.cells #[.slice G1 sl.length g1, .slice G2 sd.length g2] 29)) = w8 at b10 b11 HB cb70 cb71 cb90 cb91 cb92 ⊢
  replace bk := (HB.block _ (size_of_block bk)).trans bk
  replace b7 := (HB.block _ (size_of_block b7)).trans b7
  replace b9 := (HB.block _ (size_of_block b9)).trans b9
  replace hO1 := own_later hO1 HB
  replace hO2 := own_later hO2 HB
  replace hO3 := own_later hO3 HB
  replace hO4 := own_later hO4 HB
  replace hB := below_then hB HB
  clear HB
  go_wp2_with fail
  refine wp_region_planW [.s 0, .f [1, 2, 3], .s 4, .f [5, 6, 7, 8, 9], .s 10, .f [11, 12, 13, 14, 15, 16, 17, 19, 20], .s 18, .f [21, 22, 23, 24, 25, 26, 27, 29, 30], .s 28, .f [31, 32], .s 33] [] (by kernel_rfl) (by kernel_rfl) (by intro c a d v w h; cases d <;> exact h) ?_
  intro p9_0 hu
  clear cb70 cb71 zb7 cb90 cb91 cb92 zb9
  replace bk := (hu.block _ (size_of_block bk)).trans bk
  replace b7 := (hu.block _ (size_of_block b7)).trans b7
  replace b9 := (hu.block _ (size_of_block b9)).trans b9
  replace b10 := (hu.block _ (size_of_block b10)).trans b10
  replace b11 := (hu.block _ (size_of_block b11)).trans b11
  replace hO1 := own_later hO1 hu
  replace hO2 := own_later hO2 hu
  replace hO3 := own_later hO3 hu
  replace hO4 := own_later hO4 hu
  replace hB := below_then hB hu
  clear hu
  refine wpPlanW_call rfl (by kernel_rfl) fun K hK => ?_
  go_simp
  refine (sanity_c p9_0).mono ?_
  rintro e X ⟨rfl, hxx⟩
  refine hK _ _ hxx fun p9_1 hu => ?_
  clear hK K
  have hv := below_then hxx hu
  replace bk := (hv.block _ (size_of_block bk)).trans bk
  replace b7 := (hv.block _ (size_of_block b7)).trans b7
  replace b9 := (hv.block _ (size_of_block b9)).trans b9
  replace b10 := (hv.block _ (size_of_block b10)).trans b10
  replace b11 := (hv.block _ (size_of_block b11)).trans b11
  replace hO1 := own_later hO1 hv
  replace hO2 := own_later hO2 hv
  replace hO3 := own_later hO3 hv
  replace hO4 := own_later hO4 hv
  replace hB := below_then hB hv
  clear hxx hu hv
  refine wpPlanW_r ?_
  simp only [pick, List.filterMap_cons, List.filterMap_nil, List.getElem?_toArray, List.getElem?_cons_succ, List.getElem?_cons_zero]
  have cbk0 := Joins.cell_of_block bk 0
  have cbk1 := Joins.cell_of_block bk 1
  have cbk2 := Joins.cell_of_block bk 2
  have cbk3 := Joins.cell_of_block bk 3
  have cbk4 := Joins.cell_of_block bk 4
  have zbk := size_of_block bk
  have cb100 := Joins.cell_of_block b10 0
  have cb101 := Joins.cell_of_block b10 1
  have zb10 := size_of_block b10
  have hcg : ∀ (g : Gr p9_1) b o, b < p9_1.heap.size → g.val.cell? ⟨b, o, none⟩ = p9_1.cell? ⟨b, o, none⟩ := fun g b o h => (bcell g.b).1 b o h
  refine WR.step (by kernel_rfl) (fun K hK => ?_); go_simp; refine hK _ ?_; clear hK K
  refine WR.step (by kernel_rfl) (fun K hK => ?_); go_simp; refine hK _ ?_; clear hK K
  refine WR.step (by kernel_rfl) (fun K hK => ?_); go_simp; refine hK _ ?_; clear hK K
  go_simp
  refine WR.nil fun p9_2 hb => ?_
  clear hcg cbk0 cbk1 cbk2 cbk3 cbk4 zbk cb100 cb101 zb10
  replace bk := (hb.block _ (size_of_block bk)).trans bk
  replace b7 := (hb.block _ (size_of_block b7)).trans b7
  replace b9 := (hb.block _ (size_of_block b9)).trans b9
  replace b10 := (hb.block _ (size_of_block b10)).trans b10
  replace b11 := (hb.block _ (size_of_block b11)).trans b11
  replace hO1 := own_later hO1 hb
  replace hO2 := own_later hO2 hb
  replace hO3 := own_later hO3 hb
  replace hO4 := own_later hO4 hb
  replace hB := below_then hB hb
  clear hb
  refine wpPlanW_call rfl (by kernel_rfl) fun K hK => ?_
  go_simp
  refine (HFT.out F1 f1 F2 f2 tl td HT1.out p9_2 (HK.out.later hB) ⟨_, _, rfl, Ints.of_own hO1 (by have := HLT.out _ _ HT1.out; omega), Ints.of_own hO2 (by have := HLT.out _ _ HT1.out; omega)⟩).mono ?_
  rintro e X ⟨⟨va, vc, rfl⟩, hxx⟩
  refine hK _ _ hxx fun p9_3 hu => ?_
  clear hK K
  have hv := below_then hxx hu
  replace bk := (hv.block _ (size_of_block bk)).trans bk
  replace b7 := (hv.block _ (size_of_block b7)).trans b7
  replace b9 := (hv.block _ (size_of_block b9)).trans b9
  replace b10 := (hv.block _ (size_of_block b10)).trans b10
  replace b11 := (hv.block _ (size_of_block b11)).trans b11
  replace hO1 := own_later hO1 hv
  replace hO2 := own_later hO2 hv
  replace hO3 := own_later hO3 hv
  replace hO4 := own_later hO4 hv
  replace hB := below_then hB hv
  clear hxx hu hv
  refine wpPlanW_r ?_
  simp only [pick, List.filterMap_cons, List.filterMap_nil, List.getElem?_toArray, List.getElem?_cons_succ, List.getElem?_cons_zero]
  have cbk0 := Joins.cell_of_block bk 0
  have cbk1 := Joins.cell_of_block bk 1
  have cbk2 := Joins.cell_of_block bk 2
  have cbk3 := Joins.cell_of_block bk 3
  have cbk4 := Joins.cell_of_block bk 4
  have zbk := size_of_block bk
  have cb110 := Joins.cell_of_block b11 0
  have cb111 := Joins.cell_of_block b11 1
  have zb11 := size_of_block b11
  have hcg : ∀ (g : Gr p9_3) b o, b < p9_3.heap.size → g.val.cell? ⟨b, o, none⟩ = p9_3.cell? ⟨b, o, none⟩ := fun g b o h => (bcell g.b).1 b o h
  refine WR.val (.bool true) (by kernel_rfl) (by intro g; simp [execOp, go_sem, Tryz.fieldKept2]) ?_
  refine WR.val (.bool true) (by kernel_rfl) (by intro g; first | (simp [execOp, go_sem]; done) | kernel_rfl) ?_
  refine WR.val (.bool true) (by kernel_rfl) (by intro g; first | (simp [execOp, go_sem]; done) | kernel_rfl) ?_
  refine WR.step (by kernel_rfl) (fun K hK => ?_); go_simp; refine hK _ ?_; clear hK K
  refine WR.step (by kernel_rfl) (fun K hK => ?_); go_simp; refine hK _ ?_; clear hK K
  go_simp
  refine WR.nil fun p9_4 hb => ?_
  clear hcg cbk0 cbk1 cbk2 cbk3 cbk4 zbk cb110 cb111 zb11
  replace bk := (hb.block _ (size_of_block bk)).trans bk
  replace b7 := (hb.block _ (size_of_block b7)).trans b7
  replace b9 := (hb.block _ (size_of_block b9)).trans b9
  replace b10 := (hb.block _ (size_of_block b10)).trans b10
  replace b11 := (hb.block _ (size_of_block b11)).trans b11
  replace hO1 := own_later hO1 hb
  replace hO2 := own_later hO2 hb
  replace hO3 := own_later hO3 hb
  replace hO4 := own_later hO4 hb
  replace hB := below_then hB hb
  clear hb
  refine wpPlanW_call rfl (by kernel_rfl) fun K hK => ?_
  go_simp
  refine (HFT.out G1 g1 G2 g2 sl sd HT2.out p9_4 (HK.out.later hB) ⟨_, _, rfl, Ints.of_own hO3 (by have := HLT.out _ _ HT2.out; omega), Ints.of_own hO4 (by have := HLT.out _ _ HT2.out; omega)⟩).mono ?_
  rintro e X ⟨⟨vb, vd, rfl⟩, hxx⟩
  refine hK _ _ hxx fun p9_5 hu => ?_
  clear hK K
  have hv := below_then hxx hu
  replace bk := (hv.block _ (size_of_block bk)).trans bk
  replace b7 := (hv.block _ (size_of_block b7)).trans b7
  replace b9 := (hv.block _ (size_of_block b9)).trans b9
  replace b10 := (hv.block _ (size_of_block b10)).trans b10
  replace b11 := (hv.block _ (size_of_block b11)).trans b11
  replace hO1 := own_later hO1 hv
  replace hO2 := own_later hO2 hv
  replace hO3 := own_later hO3 hv
  replace hO4 := own_later hO4 hv
  replace hB := below_then hB hv
  clear hxx hu hv
  refine wpPlanW_r ?_
  simp only [pick, List.filterMap_cons, List.filterMap_nil, List.getElem?_toArray, List.getElem?_cons_succ, List.getElem?_cons_zero]
  have cbk0 := Joins.cell_of_block bk 0
  have cbk1 := Joins.cell_of_block bk 1
  have cbk2 := Joins.cell_of_block bk 2
  have cbk3 := Joins.cell_of_block bk 3
  have cbk4 := Joins.cell_of_block bk 4
  have zbk := size_of_block bk
  have cb100 := Joins.cell_of_block b10 0
  have cb101 := Joins.cell_of_block b10 1
  have zb10 := size_of_block b10
  have cb70 := Joins.cell_of_block b7 0
  have cb71 := Joins.cell_of_block b7 1
  have zb7 := size_of_block b7
  have hcg : ∀ (g : Gr p9_5) b o, b < p9_5.heap.size → g.val.cell? ⟨b, o, none⟩ = p9_5.cell? ⟨b, o, none⟩ := fun g b o h => (bcell g.b).1 b o h
  refine WR.val (.bool true) (by kernel_rfl) (by intro g; simp [execOp, go_sem, Tryz.fieldKept2]) ?_
  refine WR.val (.bool true) (by kernel_rfl) (by intro g; first | (simp [execOp, go_sem]; done) | kernel_rfl) ?_
  refine WR.val (.bool true) (by kernel_rfl) (by intro g; first | (simp [execOp, go_sem]; done) | kernel_rfl) ?_
  refine WR.step (by kernel_rfl) (fun K hK => ?_); go_simp; refine hK _ ?_; clear hK K
  refine WR.step (by kernel_rfl) (fun K hK => ?_); go_simp; refine hK _ ?_; clear hK K
  refine WR.step (by kernel_rfl) (fun K hK => ?_); go_simp; refine hK _ ?_; clear hK K
  refine WR.step (by kernel_rfl) (fun K hK => ?_); go_simp; refine hK _ ?_; clear hK K
  refine WR.step (by kernel_rfl) (fun K hK => ?_); go_simp; refine hK _ ?_; clear hK K
  refine WR.step (by kernel_rfl) (fun K hK => ?_); go_simp; refine hK _ ?_; clear hK K
  go_simp
  refine WR.nil fun p9_6 hb => ?_
  clear hcg cbk0 cbk1 cbk2 cbk3 cbk4 zbk cb100 cb101 zb10 cb70 cb71 zb7
  replace bk := (hb.block _ (size_of_block bk)).trans bk
  replace b7 := (hb.block _ (size_of_block b7)).trans b7
  replace b9 := (hb.block _ (size_of_block b9)).trans b9
  replace b10 := (hb.block _ (size_of_block b10)).trans b10
  replace b11 := (hb.block _ (size_of_block b11)).trans b11
  replace hO1 := own_later hO1 hb
  replace hO2 := own_later hO2 hb
  replace hO3 := own_later hO3 hb
  replace hO4 := own_later hO4 hb
  replace hB := below_then hB hb
  clear hb
  refine wpPlanW_call rfl (by kernel_rfl) fun K hK => ?_
  go_simp
  refine (HTB.out F1 f1 F2 f2 tl td TA HT1.out HK1.out p9_6 (HK.out.later hB) ⟨_, _, rfl, Ints.of_own hO1 (by have := HLT.out _ _ HT1.out; omega), Ints.of_own hO2 (by have := HLT.out _ _ HT1.out; omega)⟩).mono ?_
  rintro e X ⟨rfl, hxx⟩
  refine hK _ _ hxx fun p9_7 hu => ?_
  clear hK K
  have hv := below_then hxx hu
  replace bk := (hv.block _ (size_of_block bk)).trans bk
  replace b7 := (hv.block _ (size_of_block b7)).trans b7
  replace b9 := (hv.block _ (size_of_block b9)).trans b9
  replace b10 := (hv.block _ (size_of_block b10)).trans b10
  replace b11 := (hv.block _ (size_of_block b11)).trans b11
  replace hO1 := own_later hO1 hv
  replace hO2 := own_later hO2 hv
  replace hO3 := own_later hO3 hv
  replace hO4 := own_later hO4 hv
  replace hB := below_then hB hv
  clear hxx hu hv
  refine wpPlanW_r ?_
  simp only [pick, List.filterMap_cons, List.filterMap_nil, List.getElem?_toArray, List.getElem?_cons_succ, List.getElem?_cons_zero]
  have cbk0 := Joins.cell_of_block bk 0
  have cbk1 := Joins.cell_of_block bk 1
  have cbk2 := Joins.cell_of_block bk 2
  have cbk3 := Joins.cell_of_block bk 3
  have cbk4 := Joins.cell_of_block bk 4
  have zbk := size_of_block bk
  have cb110 := Joins.cell_of_block b11 0
  have cb111 := Joins.cell_of_block b11 1
  have zb11 := size_of_block b11
  have cb70 := Joins.cell_of_block b7 0
  have cb71 := Joins.cell_of_block b7 1
  have zb7 := size_of_block b7
  have hcg : ∀ (g : Gr p9_7) b o, b < p9_7.heap.size → g.val.cell? ⟨b, o, none⟩ = p9_7.cell? ⟨b, o, none⟩ := fun g b o h => (bcell g.b).1 b o h
  refine WR.val (.bool true) (by kernel_rfl) (by intro g; first | (simp [execOp, go_sem]; done) | kernel_rfl) ?_
  refine WR.val (.bool true) (by kernel_rfl) (by intro g; first | (simp [execOp, go_sem]; done) | kernel_rfl) ?_
  refine WR.val (.bool true) (by kernel_rfl) (by intro g; first | (simp [execOp, go_sem]; done) | kernel_rfl) ?_
  refine WR.step (by kernel_rfl) (fun K hK => ?_); go_simp; refine hK _ ?_; clear hK K
  refine WR.step (by kernel_rfl) (fun K hK => ?_); go_simp; refine hK _ ?_; clear hK K
  refine WR.step (by kernel_rfl) (fun K hK => ?_); go_simp; refine hK _ ?_; clear hK K
  refine WR.step (by kernel_rfl) (fun K hK => ?_); go_simp; refine hK _ ?_; clear hK K
  refine WR.step (by kernel_rfl) (fun K hK => ?_); go_simp; refine hK _ ?_; clear hK K
  refine WR.step (by kernel_rfl) (fun K hK => ?_); go_simp; refine hK _ ?_; clear hK K
  go_simp
  refine WR.nil fun p9_8 hb => ?_
  clear hcg cbk0 cbk1 cbk2 cbk3 cbk4 zbk cb110 cb111 zb11 cb70 cb71 zb7
  replace bk := (hb.block _ (size_of_block bk)).trans bk
  replace b7 := (hb.block _ (size_of_block b7)).trans b7
  replace b9 := (hb.block _ (size_of_block b9)).trans b9
  replace b10 := (hb.block _ (size_of_block b10)).trans b10
  replace b11 := (hb.block _ (size_of_block b11)).trans b11
  replace hO1 := own_later hO1 hb
  replace hO2 := own_later hO2 hb
  replace hO3 := own_later hO3 hb
  replace hO4 := own_later hO4 hb
  replace hB := below_then hB hb
  clear hb
  refine wpPlanW_call rfl (by kernel_rfl) fun K hK => ?_
  go_simp
  refine (HTB.out G1 g1 G2 g2 sl sd TB HT2.out HK2.out p9_8 (HK.out.later hB) ⟨_, _, rfl, Ints.of_own hO3 (by have := HLT.out _ _ HT2.out; omega), Ints.of_own hO4 (by have := HLT.out _ _ HT2.out; omega)⟩).mono ?_
  rintro e X ⟨rfl, hxx⟩
  refine hK _ _ hxx fun p9_9 hu => ?_
  clear hK K
  have hv := below_then hxx hu
  replace bk := (hv.block _ (size_of_block bk)).trans bk
  replace b7 := (hv.block _ (size_of_block b7)).trans b7
  replace b9 := (hv.block _ (size_of_block b9)).trans b9
  replace b10 := (hv.block _ (size_of_block b10)).trans b10
  replace b11 := (hv.block _ (size_of_block b11)).trans b11
  replace hO1 := own_later hO1 hv
  replace hO2 := own_later hO2 hv
  replace hO3 := own_later hO3 hv
  replace hO4 := own_later hO4 hv
  replace hB := below_then hB hv
  clear hxx hu hv
  refine wpPlanW_r ?_
  simp only [pick, List.filterMap_cons, List.filterMap_nil, List.getElem?_toArray, List.getElem?_cons_succ, List.getElem?_cons_zero]
  have hcg : ∀ (g : Gr p9_9) b o, b < p9_9.heap.size → g.val.cell? ⟨b, o, none⟩ = p9_9.cell? ⟨b, o, none⟩ := fun g b o h => (bcell g.b).1 b o h
  refine WR.val (.bool true) (by kernel_rfl) (by intro g; first | (simp [execOp, go_sem]; done) | kernel_rfl) ?_
  refine WR.val (.bool true) (by kernel_rfl) (by intro g; first | (simp [execOp, go_sem]; done) | kernel_rfl) ?_
  go_simp
  refine WR.nil fun p9_10 hb => ?_
  clear hcg 
  replace bk := (hb.block _ (size_of_block bk)).trans bk
  replace b7 := (hb.block _ (size_of_block b7)).trans b7
  replace b9 := (hb.block _ (size_of_block b9)).trans b9
  replace b10 := (hb.block _ (size_of_block b10)).trans b10
  replace b11 := (hb.block _ (size_of_block b11)).trans b11
  replace hO1 := own_later hO1 hb
  replace hO2 := own_later hO2 hb
  replace hO3 := own_later hO3 hb
  replace hO4 := own_later hO4 hb
  replace hB := below_then hB hb
  clear hb
  refine wpPlanW_call rfl (by kernel_rfl) fun K hK => ?_
  go_simp
  refine hK _ _ (Below.refl _ _) fun p9_11 hu => ?_
  clear hK K
  replace bk := (hu.block _ (size_of_block bk)).trans bk
  replace b7 := (hu.block _ (size_of_block b7)).trans b7
  replace b9 := (hu.block _ (size_of_block b9)).trans b9
  replace b10 := (hu.block _ (size_of_block b10)).trans b10
  replace b11 := (hu.block _ (size_of_block b11)).trans b11
  replace hO1 := own_later hO1 hu
  replace hO2 := own_later hO2 hu
  replace hO3 := own_later hO3 hu
  replace hO4 := own_later hO4 hu
  replace hB := below_then hB hu
  clear hu
  refine wpPlanW_nil ?_
  show wpList _ _ _ _ _ _
  skip
  go_wp2_with fail
  go_ret
  exact ⟨rfl, hB⟩
theorem ShaftTakes_w (rm pr : Int) (A1 : Option Addr) (n1 c1 : Nat) (A2 : Option Addr) (n2 c2 : Nat) (A3 : Option Addr) (n3 c3 : Nat) (d l : Int) (w : World)
    (hk : (∃ k : Kl, k.room = rm ∧ k.per = pr ∧ k.ls.length = n1 ∧ k.ds.length = n2 ∧ k.ws.length = n3 ∧ Kiln w (.agg #[.int .i64 rm, .int .i64 pr, .slice A1 n1 c1, .slice A2 n2 c2, .slice A3 n3 c3]) k) ∨ 140737488355328 < n1 ∨ 140737488355328 < n2 ∨ 140737488355328 < n3) :
    Calls Tryz.prog 7 #[.agg #[.int .i64 rm, .int .i64 pr, .slice A1 n1 c1, .slice A2 n2 c2, .slice A3 n3 c3], .int .i64 d, .int .i64 l] w fun e w' => e = .returned (.bool true) ∧ Below w.heap.size w w' := by
  rcases kiln_arg hk with h | ⟨hf, k, rfl, rfl, rfl, rfl, rfl, hk⟩
  · exact STakes_no rm pr A1 n1 c1 A2 n2 c2 A3 n3 c3 d l w h
  · by_cases h0 : (tookE k d l).2 = 0
    · exact STakes_ok k A1 A2 A3 c1 c2 c3 d l w hk hf h0
    · exact STakes_bad k A1 A2 A3 c1 c2 c3 d l w hk hf h0
end Go.Proofs.YtpgepfbdjefmdaaGreat
