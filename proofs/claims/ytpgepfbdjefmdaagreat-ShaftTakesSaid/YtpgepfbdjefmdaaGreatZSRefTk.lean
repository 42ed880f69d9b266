/- The reference's took (written by tools/gensreftk.py). -/
import Derived.Test.YtpgepfbdjefmdaaGreatZSRefK
import Derived.Test.YtpgepfbdjefmdaaGreatZSRefF
import Derived.Test.YtpgepfbdjefmdaaGreatJ2
import Derived.Test.YtpgepfbdjefmdaaGreatZSHgtE
namespace Go.Proofs.YtpgepfbdjefmdaaGreat
open Go Go.RowKit Go.Shelf
attribute [local go_sem] Oper.semAt_some Rel RelAt RelUpon

set_option maxRecDepth 100000 in
set_option maxHeartbeats 4000000 in
theorem rtook_c (k : Kl) (v u : Value) (d l : Nat) (hs : List Int) (h : Int → Int) (w : World) (hk : Kiln w v k) (hR : Right k) (hI : Ints w w.heap.size u hs) (hlen : hs.length = mN k) (hat : ∀ x : Nat, x < mN k → hs[x]? = some (h (x : Int)))
    (hr : ∀ x : Nat, x < mN k → 0 ≤ h (x : Int) ∧ h (x : Int) ≤ 687865856) (hd : d < k.ds.length) (hl : l < k.ls.length) :
    Calls Tryz.prog 121 #[v, u, .int .i64 d, .int .i64 l] w fun e w' => e = .returned (.int .i64 (tk h ⟨(l : Int), (l : Int) + 1⟩ ⟨markI k d, markI k ((d : Int) + 1)⟩)) ∧ Below w.heap.size w w' := by
  obtain ⟨A1, c1, A2, c2, A3, c3, rfl⟩ := kilnForm hk
  obtain ⟨B, e, rfl, _, _, hia⟩ := Ints.open_ hI
  have n1 := hR.ls
  have n2 := hR.ds
  have yA := fun v W h => mark_c k v d W (by omega) (by omega) h
  have yB := fun v W h => mark_c k v ((d : Int) + 1) W (by omega) (by omega) h
  have ra := mark_rngN (k := k) (n := (d : Int)) (by omega)
  have rb := mark_rngN (k := k) (n := (d : Int) + 1) (by omega)
  have hlN : l + 1 < mN k := by unfold mN; omega
  obtain ⟨a, ha⟩ := Int.eq_ofNat_of_zero_le ra.1
  obtain ⟨b, hb⟩ := Int.eq_ofNat_of_zero_le rb.1
  rw [ha] at yA ra ⊢
  rw [hb] at yB rb ⊢
  have haN : a < mN k := by omega
  have hbN : b < mN k := by omega
  have hl0 : l < mN k := by omega
  obtain ⟨gb, go, q1, rfl, gz, e1, f1⟩ := hia l (by omega)
  obtain ⟨gb2, go2, q2, h2, _, e2, f2⟩ := hia (l + 1) (by omega)
  obtain ⟨gb3, go3, q3, h3, _, e3, f3⟩ := hia a (by omega)
  obtain ⟨gb4, go4, q4, h4, _, e4, f4⟩ := hia b (by omega)
  obtain ⟨rfl, rfl⟩ : gb = gb2 ∧ go = go2 := by simpa using h2
  obtain ⟨rfl, rfl⟩ : gb = gb3 ∧ go = go3 := by simpa using h3
  obtain ⟨rfl, rfl⟩ : gb = gb4 ∧ go = go4 := by simpa using h4
  have z1 : q1 = h (l : Int) := by have := hat l hl0; rw [e1] at this; simpa using this
  have z2 : q2 = h ((l : Int) + 1) := by have := hat (l + 1) hlN; rw [e2] at this; simpa using this
  have z3 : q3 = h (a : Int) := by have := hat a haN; rw [e3] at this; simpa using this
  have z4 : q4 = h (b : Int) := by have := hat b hbN; rw [e4] at this; simpa using this
  have r1 := hr l hl0
  have r2 := hr (l + 1) hlN
  have r3 := hr a haN
  have r4 := hr b hbN
  rw [show ((l + 1 : Nat) : Int) = (l : Int) + 1 by push_cast; rfl, ← z2] at r2
  rw [← z1] at r1
  rw [← z3] at r3
  rw [← z4] at r4
  have HE := Lib.hid (show tk h ⟨(l : Int), (l : Int) + 1⟩ ⟨(a : Int), (b : Int)⟩ = max 0 (min q2 q4 - max q1 q3) by rw [z1, z2, z3, z4]; rfl)
  have YA := Lib.hid yA
  have YB := Lib.hid yB
  have HK := Lib.hid hk
  rw [← hlen] at hlN haN hbN hl0
  clear yA yB hk hI hia hat hr e1 e2 e3 e4 z1 z2 z3 z4 h2 h3 h4 ha hb hR ra rb hlen
  go_enter Tryz.func121, Tryz.ntmps121
  have hB1 := below_alloc w (.cells #[.int .i64 k.room, .int .i64 k.per, .slice A1 k.ls.length c1, .slice A2 k.ds.length c2, .slice A3 k.ws.length c3] 26)
  have f1' := (hB1.cell (p := ⟨gb, go + l, none⟩) gz).trans f1
  have f2' := (hB1.cell (p := ⟨gb, go + (l + 1), none⟩) gz).trans f2
  have gz' := Nat.lt_of_lt_of_le gz hB1.size
  have bk := heap_alloc_new w (.cells #[.int .i64 k.room, .int .i64 k.per, .slice A1 k.ls.length c1, .slice A2 k.ds.length c2, .slice A3 k.ws.length c3] 26)
  have HB := below_alloc w (.cells #[.int .i64 k.room, .int .i64 k.per, .slice A1 k.ls.length c1, .slice A2 k.ds.length c2, .slice A3 k.ws.length c3] 26)
  have cbk0 := Joins.cell_of_block bk 0
  have cbk1 := Joins.cell_of_block bk 1
  have cbk2 := Joins.cell_of_block bk 2
  have cbk3 := Joins.cell_of_block bk 3
  have cbk4 := Joins.cell_of_block bk 4
  have zbk := size_of_block bk
  go_wp2_with fail
  clear f1' f2' gz' hB1
  generalize (w.alloc (.cells #[.int .i64 k.room, .int .i64 k.per, .slice A1 k.ls.length c1, .slice A2 k.ds.length c2, .slice A3 k.ws.length c3] 26)) = w1 at bk HB cbk0 cbk1 cbk2 cbk3 cbk4 zbk ⊢
  replace f1 := (HB.cell (p := ⟨gb, go + l, none⟩) gz).trans f1
  replace f2 := (HB.cell (p := ⟨gb, go + (l + 1), none⟩) gz).trans f2
  replace f3 := (HB.cell (p := ⟨gb, go + a, none⟩) gz).trans f3
  replace f4 := (HB.cell (p := ⟨gb, go + b, none⟩) gz).trans f4
  replace gz := Nat.lt_of_lt_of_le gz HB.size
  have hB := HB
  clear HB
  refine (YA.out _ w1 (HK.out.later hB)).mono ?_
  rintro e w2 ⟨rfl, hF⟩
  clear cbk0 cbk1 cbk2 cbk3 cbk4 zbk
  replace bk := (hF.block _ (size_of_block bk)).trans bk
  replace f1 := (hF.cell (p := ⟨gb, go + l, none⟩) gz).trans f1
  replace f2 := (hF.cell (p := ⟨gb, go + (l + 1), none⟩) gz).trans f2
  replace f3 := (hF.cell (p := ⟨gb, go + a, none⟩) gz).trans f3
  replace f4 := (hF.cell (p := ⟨gb, go + b, none⟩) gz).trans f4
  replace gz := Nat.lt_of_lt_of_le gz hF.size
  replace hB := below_then hB hF
  clear hF
  have cbk0 := Joins.cell_of_block bk 0
  have cbk1 := Joins.cell_of_block bk 1
  have cbk2 := Joins.cell_of_block bk 2
  have cbk3 := Joins.cell_of_block bk 3
  have cbk4 := Joins.cell_of_block bk 4
  have zbk := size_of_block bk
  go_wp2_with fail
  refine (YB.out _ w2 (HK.out.later hB)).mono ?_
  rintro e w3 ⟨rfl, hF⟩
  clear cbk0 cbk1 cbk2 cbk3 cbk4 zbk
  replace bk := (hF.block _ (size_of_block bk)).trans bk
  replace f1 := (hF.cell (p := ⟨gb, go + l, none⟩) gz).trans f1
  replace f2 := (hF.cell (p := ⟨gb, go + (l + 1), none⟩) gz).trans f2
  replace f3 := (hF.cell (p := ⟨gb, go + a, none⟩) gz).trans f3
  replace f4 := (hF.cell (p := ⟨gb, go + b, none⟩) gz).trans f4
  replace gz := Nat.lt_of_lt_of_le gz hF.size
  replace hB := below_then hB hF
  clear hF
  go_wp2_with fail
  go_ret
  exact ⟨by rw [HE.out]; rfl, hB⟩
set_option maxRecDepth 100000 in
set_option maxHeartbeats 4000000 in
theorem rTookBy_c (k : Kl) (v : Value) (T1 T2 : Option Addr) (e1 e2 x y : Nat) (d l : Int) (tl td : List Int) (w : World) (hk : Kiln w v k) (hR : Right k) (ht : Truth w (.agg #[.slice T1 tl.length e1, .slice T2 td.length e2]) tl td) (w1 : wtsB tl k.ls.length = true) (w2 : wtsB td k.ds.length = true)
    (hx : place k.ls l = x) (hy : place k.ds d = y) : Calls Tryz.prog 48 #[v, .agg #[.slice T1 tl.length e1, .slice T2 td.length e2], .int .i64 d, .int .i64 l] w fun e w' => e = .returned (.int .i64 (tk (hgt k.ls.length tl td) ⟨(x : Int), (x : Int) + 1⟩ ⟨markI k y, markI k ((y : Int) + 1)⟩)) ∧ Below w.heap.size w w' := by
  obtain ⟨A1, c1, A2, c2, A3, c3, rfl⟩ := kilnForm hk
  have pr1 := place_range k.ls l
  have pr2 := place_range k.ds d
  have n1 := hR.ls
  have n2 := hR.ds
  have l1 := (wtsB_iff.1 w1).1
  have l2 := (wtsB_iff.1 w2).1
  have yH := fun v W a => rheights_c tl td v W a (by rw [l1]; exact w1) (by rw [l2]; exact w2) (by omega) (by omega)
  have hl9 := hL_len tl td tl.length td.length
  have yT := fun v u W h1 h2 => rtook_c k v u y x (hL tl td tl.length td.length) (hgt k.ls.length tl td) W h1 hR h2 (by rw [hl9]; unfold mN; omega) (fun z hz => by rw [hL_at tl td (by unfold mN at hz; omega), l1]) (fun z _ => by have := hgt_rng w1 w2 (by omega) (by omega) (z : Int); omega) (by omega) (by omega)
  have yD := fun v W h => draw_c k v d W h
  have yL := fun v W h => load_c k v l W h
  rw [hy] at yD
  rw [hx] at yL
  have HLN := Lib.hid (show (hL tl td tl.length td.length).length ≤ 100 by omega)
  obtain ⟨R, hRR⟩ : ∃ z, z = tk (hgt k.ls.length tl td) ⟨(x : Int), (x : Int) + 1⟩ ⟨markI k y, markI k ((y : Int) + 1)⟩ := ⟨_, rfl⟩
  rw [← hRR] at yT ⊢
  have YH := Lib.hid yH
  have YT := Lib.hid yT
  have YD := Lib.hid yD
  have YL := Lib.hid yL
  have HK := Lib.hid hk
  have HT := Lib.hid ht
  clear yH yT yD yL hk ht hRR pr1 pr2 hx hy hR w1 w2 l1 l2 hl9
  go_enter Tryz.func48, Tryz.ntmps48
  obtain ⟨bk, bt, -, HB⟩ := two_new' w (.cells #[.int .i64 k.room, .int .i64 k.per, .slice A1 k.ls.length c1, .slice A2 k.ds.length c2, .slice A3 k.ws.length c3] 26) (.cells #[.slice T1 tl.length e1, .slice T2 td.length e2] 29)
  have cbk0 := Joins.cell_of_block bk 0
  have cbk1 := Joins.cell_of_block bk 1
  have cbk2 := Joins.cell_of_block bk 2
  have cbk3 := Joins.cell_of_block bk 3
  have cbk4 := Joins.cell_of_block bk 4
  have zbk := size_of_block bk
  have cbt0 := Joins.cell_of_block bt 0
  have cbt1 := Joins.cell_of_block bt 1
  have zbt := size_of_block bt
  go_wp2_with fail
  generalize ((w.alloc (.cells #[.int .i64 k.room, .int .i64 k.per, .slice A1 k.ls.length c1, .slice A2 k.ds.length c2, .slice A3 k.ws.length c3] 26)).alloc (.cells #[.slice T1 tl.length e1, .slice T2 td.length e2] 29)) = w1 at bk bt HB cbk0 cbk1 cbk2 cbk3 cbk4 zbk cbt0 cbt1 zbt ⊢
  have hB := HB
  clear HB
  clear cbk0 cbk1 cbk2 cbk3 cbk4 zbk cbt0 cbt1 zbt
  refine wp_region_looseM [4, 7] [0, 1, 3, 6] (.one 2 (.one 5 (.one 8 (.one 9 .done)))) [] [] [10] [] [] (by kernel_rfl) (by kernel_rfl) (by intro c a d v w h; cases d <;> exact h) (by intro c a d v w h; cases d <;> exact h) rfl (fun r i h => by simp at h) ?_
  simp only [pick, List.filterMap_cons, List.filterMap_nil, List.getElem?_toArray, List.getElem?_cons_succ, List.getElem?_cons_zero]
  refine wpPure_step (.int .i64 d) rfl (fun u => by first | rfl | kernel_rfl | simp [execOp, go_sem]) ?_
  refine wpPure_step (.int .i64 l) rfl (fun u => by first | rfl | kernel_rfl | simp [execOp, go_sem]) ?_
  intro u2 hu2
  replace bk := (hu2.block _ (size_of_block bk)).trans bk
  replace bt := (hu2.block _ (size_of_block bt)).trans bt
  replace hB := below_then hB hu2
  have cbk0 := Joins.cell_of_block bk 0
  have cbk1 := Joins.cell_of_block bk 1
  have cbk2 := Joins.cell_of_block bk 2
  have cbk3 := Joins.cell_of_block bk 3
  have cbk4 := Joins.cell_of_block bk 4
  have zbk := size_of_block bk
  have cbt0 := Joins.cell_of_block bt 0
  have cbt1 := Joins.cell_of_block bt 1
  have zbt := size_of_block bt
  have hcg : ∀ (g : Gr u2) b o, b < u2.heap.size → g.val.cell? ⟨b, o, none⟩ = u2.cell? ⟨b, o, none⟩ := fun g b o h => (bcell g.b).1 b o h
  iterate 4 (first | (refine wpRel_step (fun K hK => ?_); go_simp; refine hK _ ?_; clear hK K))
  refine wpRel_nil fun V2_0 hb2 => ?_
  clear hcg cbk0 cbk1 cbk2 cbk3 cbk4 zbk cbt0 cbt1 zbt
  replace bk := (hb2.block _ (size_of_block bk)).trans bk
  replace bt := (hb2.block _ (size_of_block bt)).trans bt
  replace hB := below_then hB hb2
  clear hb2 hu2
  refine wpTr_step rfl rfl fun K hK => ?_
  go_simp
  refine (YH.out _ V2_0 (HT.out.later hB)).mono ?_
  rintro e X ⟨hv9, rfl, hHH, hx⟩
  refine hK _ _ hx fun V2_1 hu => ?_
  clear hK K
  replace hHH := own_later hHH hu
  have hxu := below_then hx hu
  replace bk := (hxu.block _ (size_of_block bk)).trans bk
  replace bt := (hxu.block _ (size_of_block bt)).trans bt
  replace hB := below_then hB hxu
  clear hx hu hxu
  refine wpTr_step rfl rfl fun K hK => ?_
  go_simp
  refine (YD.out _ V2_1 (HK.out.later hB)).mono ?_
  rintro e X ⟨rfl, hx⟩
  refine hK _ _ hx fun V2_2 hu => ?_
  clear hK K
  have hxu := below_then hx hu
  replace bk := (hxu.block _ (size_of_block bk)).trans bk
  replace bt := (hxu.block _ (size_of_block bt)).trans bt
  replace hHH := own_later hHH hxu
  replace hB := below_then hB hxu
  clear hx hu hxu
  refine wpTr_step rfl rfl fun K hK => ?_
  go_simp
  refine (YL.out _ V2_2 (HK.out.later hB)).mono ?_
  rintro e X ⟨rfl, hx⟩
  refine hK _ _ hx fun V2_3 hu => ?_
  clear hK K
  have hxu := below_then hx hu
  replace bk := (hxu.block _ (size_of_block bk)).trans bk
  replace bt := (hxu.block _ (size_of_block bt)).trans bt
  replace hHH := own_later hHH hxu
  replace hB := below_then hB hxu
  clear hx hu hxu
  refine wpTr_step rfl rfl fun K hK => ?_
  go_simp
  refine (YT.out _ hv9 V2_3 (HK.out.later hB) (Ints.of_own hHH (by have := HLN.out; omega))).mono ?_
  rintro e X ⟨rfl, hx⟩
  refine hK _ _ hx fun V2_4 hu => ?_
  clear hK K
  have hxu := below_then hx hu
  replace bk := (hxu.block _ (size_of_block bk)).trans bk
  replace bt := (hxu.block _ (size_of_block bt)).trans bt
  replace hHH := own_later hHH hxu
  replace hB := below_then hB hxu
  clear hx hu hxu
  show wpPure _ _ _ _
  intro ks hks _ _
  obtain rfl : ks = [] := List.length_eq_zero_iff.1 hks
  clear hks
  show wpList _ _ _ _ _ _
  simp only [deco]
  go_wp2_with fail
  go_ret
  exact ⟨rfl, hB⟩
end Go.Proofs.YtpgepfbdjefmdaaGreat
