/- The reference's CheckAbove (written by tools/gensrefca.py). -/
import Derived.Test.YtnedcclmfokdnaaGreatZSRefMk
import Derived.Test.YtnedcclmfokdnaaGreatZSRefK
import Derived.Test.YtnedcclmfokdnaaGreatZWR
import Derived.Test.YtnedcclmfokdnaaGreatZSHgtE
namespace Go.Proofs.YtnedcclmfokdnaaGreat
open Go Go.RowKit Go.Shelf
attribute [local go_sem] Oper.semAt_some Rel RelAt RelUpon

theorem path_walk {l : List Tie} {p : List Int} {a b m : Int} (h : walkI l p a 0 = some (b, m)) : (pathI l p a b).2 = true ∧ (pathI l p a b).1 = m := by
  unfold pathI; rw [h]; simp
theorem walk_path {l : List Tie} {p : List Int} {a b m : Int} (h1 : (pathI l p a b).2 = true) (h2 : (pathI l p a b).1 = m) : walkI l p a 0 = some (b, m) := by
  unfold pathI at h1 h2
  rcases h : walkI l p a 0 with _ | ⟨x, s⟩
  · rw [h] at h1; simp at h1
  · rw [h] at h1 h2; simp at h1 h2; rw [h1, h2]
set_option maxRecDepth 100000 in
set_option maxHeartbeats 4000000 in
theorem rCA_bad (k : Kl) (v : Value) (fr to m : Int) (P0 P1 P2 : Option Addr) (e0 e1 e2 : Nat) (p tl td : List Int) (w : World) (hk : Kiln w v k) (hp : Ints w w.heap.size (.slice P0 p.length e0) p) (ht : Truth w (.agg #[.slice P1 tl.length e1, .slice P2 td.length e2]) tl td) (hc : marksI k fr to ≠ 0) : Calls Tryz.prog 32 #[v, .int .i64 fr, .int .i64 to, .agg #[.int .i64 m, .slice P0 p.length e0, .slice P1 tl.length e1, .slice P2 td.length e2]] w fun e w' => e = .returned (.int .i64 (aboveC k fr to m p tl td)) ∧ Below w.heap.size w w' := by
  have HE := Lib.hid (show aboveC k fr to m p tl td = marksI k fr to by unfold aboveC; rw [if_pos hc])
  have yM := fun v W h => rmarked_c k v fr to W h
  have d0 : (marksI k fr to != 0) = true := by simpa using hc
  have YM := Lib.hid yM
  clear hc yM
  obtain ⟨A1, c1, A2, c2, A3, c3, rfl⟩ := kilnForm hk
  have HK := Lib.hid hk
  have HP := Lib.hid hp
  have HT := Lib.hid ht
  clear hk hp ht
  go_enter Tryz.func32, Tryz.ntmps32
  obtain ⟨bk, bc, -, HB⟩ := two_new' w (.cells #[.int .i64 k.room, .int .i64 k.per, .slice A1 k.ls.length c1, .slice A2 k.ds.length c2, .slice A3 k.ws.length c3] 26) (.cells #[.int .i64 m, .slice P0 p.length e0, .slice P1 tl.length e1, .slice P2 td.length e2] 54)
  have cbk0 := Joins.cell_of_block bk 0
  have cbk1 := Joins.cell_of_block bk 1
  have cbk2 := Joins.cell_of_block bk 2
  have cbk3 := Joins.cell_of_block bk 3
  have cbk4 := Joins.cell_of_block bk 4
  have zbk := size_of_block bk
  go_wp2_with fail
  generalize ((w.alloc (.cells #[.int .i64 k.room, .int .i64 k.per, .slice A1 k.ls.length c1, .slice A2 k.ds.length c2, .slice A3 k.ws.length c3] 26)).alloc (.cells #[.int .i64 m, .slice P0 p.length e0, .slice P1 tl.length e1, .slice P2 td.length e2] 54)) = w1 at bk bc HB cbk0 cbk1 cbk2 cbk3 cbk4 zbk ⊢
  have hB := HB
  clear HB
  refine (YM.out _ w1 (HK.out.later hB)).mono ?_
  rintro e w2 ⟨rfl, hF⟩
  clear cbk0 cbk1 cbk2 cbk3 cbk4 zbk
  replace bk := (hF.block _ (size_of_block bk)).trans bk
  replace bc := (hF.block _ (size_of_block bc)).trans bc
  replace hB := below_then hB hF
  clear hF
  go_wp2_with fail
  go_ret
  exact ⟨by rw [HE.out]; rfl, hB⟩
set_option maxRecDepth 100000 in
set_option maxHeartbeats 4000000 in
theorem rCA_long (k : Kl) (v : Value) (fr to m : Int) (P0 P1 P2 : Option Addr) (e0 e1 e2 : Nat) (p tl td : List Int) (w : World) (hk : Kiln w v k) (hp : Ints w w.heap.size (.slice P0 p.length e0) p) (ht : Truth w (.agg #[.slice P1 tl.length e1, .slice P2 td.length e2]) tl td) (hc : marksI k fr to = 0) (hl : 200 < p.length) : Calls Tryz.prog 32 #[v, .int .i64 fr, .int .i64 to, .agg #[.int .i64 m, .slice P0 p.length e0, .slice P1 tl.length e1, .slice P2 td.length e2]] w fun e w' => e = .returned (.int .i64 (aboveC k fr to m p tl td)) ∧ Below w.heap.size w w' := by
  have HE := Lib.hid (show aboveC k fr to m p tl td = 2 by unfold aboveC; rw [if_neg (show ¬ marksI k fr to ≠ 0 by simp [hc]), if_pos hl])
  have yM := fun v W h => rmarked_c k v fr to W h
  rw [hc] at yM
  have YM := Lib.hid yM
  have d0 : decide ((p.length : Int) > 200) = true := decide_eq_true (by omega)
  clear hc yM
  obtain ⟨A1, c1, A2, c2, A3, c3, rfl⟩ := kilnForm hk
  have HK := Lib.hid hk
  have HP := Lib.hid hp
  have HT := Lib.hid ht
  clear hk hp ht
  go_enter Tryz.func32, Tryz.ntmps32
  obtain ⟨bk, bc, -, HB⟩ := two_new' w (.cells #[.int .i64 k.room, .int .i64 k.per, .slice A1 k.ls.length c1, .slice A2 k.ds.length c2, .slice A3 k.ws.length c3] 26) (.cells #[.int .i64 m, .slice P0 p.length e0, .slice P1 tl.length e1, .slice P2 td.length e2] 54)
  have cbk0 := Joins.cell_of_block bk 0
  have cbk1 := Joins.cell_of_block bk 1
  have cbk2 := Joins.cell_of_block bk 2
  have cbk3 := Joins.cell_of_block bk 3
  have cbk4 := Joins.cell_of_block bk 4
  have zbk := size_of_block bk
  go_wp2_with fail
  generalize ((w.alloc (.cells #[.int .i64 k.room, .int .i64 k.per, .slice A1 k.ls.length c1, .slice A2 k.ds.length c2, .slice A3 k.ws.length c3] 26)).alloc (.cells #[.int .i64 m, .slice P0 p.length e0, .slice P1 tl.length e1, .slice P2 td.length e2] 54)) = w1 at bk bc HB cbk0 cbk1 cbk2 cbk3 cbk4 zbk ⊢
  have hB := HB
  clear HB
  refine (YM.out _ w1 (HK.out.later hB)).mono ?_
  rintro e w2 ⟨rfl, hF⟩
  clear cbk0 cbk1 cbk2 cbk3 cbk4 zbk
  replace bk := (hF.block _ (size_of_block bk)).trans bk
  replace bc := (hF.block _ (size_of_block bc)).trans bc
  replace hB := below_then hB hF
  clear hF
  have cbc0 := Joins.cell_of_block bc 0
  have cbc1 := Joins.cell_of_block bc 1
  have cbc2 := Joins.cell_of_block bc 2
  have cbc3 := Joins.cell_of_block bc 3
  have zbc := size_of_block bc
  go_wp2_with fail
  all_goals (try (exfalso; omega))
  go_ret
  exact ⟨by rw [HE.out]; rfl, hB⟩
set_option maxRecDepth 100000 in
set_option maxHeartbeats 4000000 in
theorem rCA_no (k : Kl) (v : Value) (fr to m : Int) (P0 P1 P2 : Option Addr) (e0 e1 e2 : Nat) (p tl td : List Int) (w : World) (hk : Kiln w v k) (hp : Ints w w.heap.size (.slice P0 p.length e0) p) (ht : Truth w (.agg #[.slice P1 tl.length e1, .slice P2 td.length e2]) tl td) (hc : marksI k fr to = 0) (hl : p.length ≤ 200) (h8 : ¬ ((pathI (tiesL k) p fr to).2 = true ∧ (pathI (tiesL k) p fr to).1 = m ∧ (wtsB tl k.ls.length && wtsB td k.ds.length) = true)) : Calls Tryz.prog 32 #[v, .int .i64 fr, .int .i64 to, .agg #[.int .i64 m, .slice P0 p.length e0, .slice P1 tl.length e1, .slice P2 td.length e2]] w fun e w' => e = .returned (.int .i64 (aboveC k fr to m p tl td)) ∧ Below w.heap.size w w' := by
  have hc0 : checkI k = 0 := by
    unfold marksI at hc
    split at hc
    · rename_i h; exact absurd hc h
    · rename_i h; simpa using h
  have hrg : (0 ≤ fr ∧ fr < mN k) ∧ 0 ≤ to ∧ to < mN k := by
    unfold marksI at hc
    rw [if_neg (by simp [hc0])] at hc
    split at hc
    · rename_i h; unfold mN; omega
    · cases hc
  have hR := right_of_check hc0
  have HR := Lib.hid hR
  have hlen := tiesL_len hR.small
  have HEE := Lib.hid (show aboveC k fr to m p tl td = if walkI (tiesL k) p fr 0 = some (to, m) ∧ fitsB k tl td = true ∧ hgt k.ls.length tl td to - hgt k.ls.length tl td fr = m then 0 else 8 by unfold aboveC; rw [if_neg (show ¬ marksI k fr to ≠ 0 by simp [hc]), if_neg (show ¬ 200 < p.length by omega)])
  have yM := fun v W h => rmarked_c k v fr to W h
  rw [hc] at yM
  have YM := Lib.hid yM
  have d0 : decide ((p.length : Int) > 200) = false := decide_eq_false (by omega)
  have yP := fun u W h1 h2 => rpath_c u (.slice P0 p.length e0) (tiesL k) p fr to W h1 h2 hR.small.ties (by omega) (by omega)
  obtain ⟨ps, hps⟩ : ∃ x, x = (pathI (tiesL k) p fr to).1 := ⟨_, rfl⟩
  obtain ⟨pb, hpb⟩ : ∃ x, x = (pathI (tiesL k) p fr to).2 := ⟨_, rfl⟩
  rw [← hps, ← hpb] at yP
  have YP := Lib.hid yP
  have yW := fun v t W h1 h2 => rweights_c k v t tl td W h1 h2
  obtain ⟨wb, hwb⟩ : ∃ x, x = (wtsB tl k.ls.length && wtsB td k.ds.length) := ⟨_, rfl⟩
  rw [← hwb] at yW
  have YW := Lib.hid yW
  clear yM yP yW
  have HE := Lib.hid (show aboveC k fr to m p tl td = 8 by
    rw [HEE.out]
    refine if_neg fun ⟨h1, h2, _⟩ => h8 ?_
    have hf := (fitsB_iff.1 h2).2
    exact ⟨(path_walk h1).1, (path_walk h1).2, by rw [hf.1, hf.2.1]; rfl⟩)
  rw [← hps, ← hpb, ← hwb] at h8
  clear hps hpb hwb HEE hrg hR hlen hc0 hc
  cases pb
  · obtain ⟨A1, c1, A2, c2, A3, c3, rfl⟩ := kilnForm hk
    have HK := Lib.hid hk
    have HP := Lib.hid hp
    have HT := Lib.hid ht
    clear hk hp ht
    go_enter Tryz.func32, Tryz.ntmps32
    obtain ⟨bk, bc, -, HB⟩ := two_new' w (.cells #[.int .i64 k.room, .int .i64 k.per, .slice A1 k.ls.length c1, .slice A2 k.ds.length c2, .slice A3 k.ws.length c3] 26) (.cells #[.int .i64 m, .slice P0 p.length e0, .slice P1 tl.length e1, .slice P2 td.length e2] 54)
    have cbk0 := Joins.cell_of_block bk 0
    have cbk1 := Joins.cell_of_block bk 1
    have cbk2 := Joins.cell_of_block bk 2
    have cbk3 := Joins.cell_of_block bk 3
    have cbk4 := Joins.cell_of_block bk 4
    have zbk := size_of_block bk
    go_wp2_with fail
    generalize ((w.alloc (.cells #[.int .i64 k.room, .int .i64 k.per, .slice A1 k.ls.length c1, .slice A2 k.ds.length c2, .slice A3 k.ws.length c3] 26)).alloc (.cells #[.int .i64 m, .slice P0 p.length e0, .slice P1 tl.length e1, .slice P2 td.length e2] 54)) = w1 at bk bc HB cbk0 cbk1 cbk2 cbk3 cbk4 zbk ⊢
    have hB := HB
    clear HB
    refine (YM.out _ w1 (HK.out.later hB)).mono ?_
    rintro e w2 ⟨rfl, hF⟩
    clear cbk0 cbk1 cbk2 cbk3 cbk4 zbk
    replace bk := (hF.block _ (size_of_block bk)).trans bk
    replace bc := (hF.block _ (size_of_block bc)).trans bc
    replace hB := below_then hB hF
    clear hF
    have cbk0 := Joins.cell_of_block bk 0
    have cbk1 := Joins.cell_of_block bk 1
    have cbk2 := Joins.cell_of_block bk 2
    have cbk3 := Joins.cell_of_block bk 3
    have cbk4 := Joins.cell_of_block bk 4
    have zbk := size_of_block bk
    have cbc0 := Joins.cell_of_block bc 0
    have cbc1 := Joins.cell_of_block bc 1
    have cbc2 := Joins.cell_of_block bc 2
    have cbc3 := Joins.cell_of_block bc 3
    have zbc := size_of_block bc
    go_wp2_with fail
    all_goals (try (exfalso; omega))
    refine (rties_c k _ w2 (HK.out.later hB) HR.out.small).mono ?_
    rintro e w3 ⟨u, rfl, hTT, hF⟩
    clear cbk0 cbk1 cbk2 cbk3 cbk4 zbk cbc0 cbc1 cbc2 cbc3 zbc
    replace bk := (hF.block _ (size_of_block bk)).trans bk
    replace bc := (hF.block _ (size_of_block bc)).trans bc
    replace hB := below_then hB hF
    clear hF
    have cbc0 := Joins.cell_of_block bc 0
    have cbc1 := Joins.cell_of_block bc 1
    have cbc2 := Joins.cell_of_block bc 2
    have cbc3 := Joins.cell_of_block bc 3
    have zbc := size_of_block bc
    go_wp2_with fail
    refine (YP.out u w3 (OwnTies.at_ hTT (by have := tiesL_len HR.out.small; omega)) (HP.out.later hB)).mono ?_
    rintro e w4 ⟨rfl, hF⟩
    clear cbc0 cbc1 cbc2 cbc3 zbc
    replace bk := (hF.block _ (size_of_block bk)).trans bk
    replace bc := (hF.block _ (size_of_block bc)).trans bc
    replace hTT := own_later hTT hF
    replace hB := below_then hB hF
    clear hF
    have cbk0 := Joins.cell_of_block bk 0
    have cbk1 := Joins.cell_of_block bk 1
    have cbk2 := Joins.cell_of_block bk 2
    have cbk3 := Joins.cell_of_block bk 3
    have cbk4 := Joins.cell_of_block bk 4
    have zbk := size_of_block bk
    have cbc0 := Joins.cell_of_block bc 0
    have cbc1 := Joins.cell_of_block bc 1
    have cbc2 := Joins.cell_of_block bc 2
    have cbc3 := Joins.cell_of_block bc 3
    have zbc := size_of_block bc
    go_wp2_with fail
    refine (YW.out _ _ w4 (HK.out.later hB) (HT.out.later hB)).mono ?_
    rintro e w5 ⟨rfl, hF⟩
    clear cbk0 cbk1 cbk2 cbk3 cbk4 zbk cbc0 cbc1 cbc2 cbc3 zbc
    replace bk := (hF.block _ (size_of_block bk)).trans bk
    replace bc := (hF.block _ (size_of_block bc)).trans bc
    replace hTT := own_later hTT hF
    replace hB := below_then hB hF
    clear hF
    have cbc0 := Joins.cell_of_block bc 0
    have cbc1 := Joins.cell_of_block bc 1
    have cbc2 := Joins.cell_of_block bc 2
    have cbc3 := Joins.cell_of_block bc 3
    have zbc := size_of_block bc
    go_wp2_with fail
    go_ret
    exact ⟨by rw [HE.out]; rfl, hB⟩
  · cases wb
    · obtain ⟨A1, c1, A2, c2, A3, c3, rfl⟩ := kilnForm hk
      have HK := Lib.hid hk
      have HP := Lib.hid hp
      have HT := Lib.hid ht
      clear hk hp ht
      go_enter Tryz.func32, Tryz.ntmps32
      obtain ⟨bk, bc, -, HB⟩ := two_new' w (.cells #[.int .i64 k.room, .int .i64 k.per, .slice A1 k.ls.length c1, .slice A2 k.ds.length c2, .slice A3 k.ws.length c3] 26) (.cells #[.int .i64 m, .slice P0 p.length e0, .slice P1 tl.length e1, .slice P2 td.length e2] 54)
      have cbk0 := Joins.cell_of_block bk 0
      have cbk1 := Joins.cell_of_block bk 1
      have cbk2 := Joins.cell_of_block bk 2
      have cbk3 := Joins.cell_of_block bk 3
      have cbk4 := Joins.cell_of_block bk 4
      have zbk := size_of_block bk
      go_wp2_with fail
      generalize ((w.alloc (.cells #[.int .i64 k.room, .int .i64 k.per, .slice A1 k.ls.length c1, .slice A2 k.ds.length c2, .slice A3 k.ws.length c3] 26)).alloc (.cells #[.int .i64 m, .slice P0 p.length e0, .slice P1 tl.length e1, .slice P2 td.length e2] 54)) = w1 at bk bc HB cbk0 cbk1 cbk2 cbk3 cbk4 zbk ⊢
      have hB := HB
      clear HB
      refine (YM.out _ w1 (HK.out.later hB)).mono ?_
      rintro e w2 ⟨rfl, hF⟩
      clear cbk0 cbk1 cbk2 cbk3 cbk4 zbk
      replace bk := (hF.block _ (size_of_block bk)).trans bk
      replace bc := (hF.block _ (size_of_block bc)).trans bc
      replace hB := below_then hB hF
      clear hF
      have cbk0 := Joins.cell_of_block bk 0
      have cbk1 := Joins.cell_of_block bk 1
      have cbk2 := Joins.cell_of_block bk 2
      have cbk3 := Joins.cell_of_block bk 3
      have cbk4 := Joins.cell_of_block bk 4
      have zbk := size_of_block bk
      have cbc0 := Joins.cell_of_block bc 0
      have cbc1 := Joins.cell_of_block bc 1
      have cbc2 := Joins.cell_of_block bc 2
      have cbc3 := Joins.cell_of_block bc 3
      have zbc := size_of_block bc
      go_wp2_with fail
      all_goals (try (exfalso; omega))
      refine (rties_c k _ w2 (HK.out.later hB) HR.out.small).mono ?_
      rintro e w3 ⟨u, rfl, hTT, hF⟩
      clear cbk0 cbk1 cbk2 cbk3 cbk4 zbk cbc0 cbc1 cbc2 cbc3 zbc
      replace bk := (hF.block _ (size_of_block bk)).trans bk
      replace bc := (hF.block _ (size_of_block bc)).trans bc
      replace hB := below_then hB hF
      clear hF
      have cbc0 := Joins.cell_of_block bc 0
      have cbc1 := Joins.cell_of_block bc 1
      have cbc2 := Joins.cell_of_block bc 2
      have cbc3 := Joins.cell_of_block bc 3
      have zbc := size_of_block bc
      go_wp2_with fail
      refine (YP.out u w3 (OwnTies.at_ hTT (by have := tiesL_len HR.out.small; omega)) (HP.out.later hB)).mono ?_
      rintro e w4 ⟨rfl, hF⟩
      clear cbc0 cbc1 cbc2 cbc3 zbc
      replace bk := (hF.block _ (size_of_block bk)).trans bk
      replace bc := (hF.block _ (size_of_block bc)).trans bc
      replace hTT := own_later hTT hF
      replace hB := below_then hB hF
      clear hF
      have cbk0 := Joins.cell_of_block bk 0
      have cbk1 := Joins.cell_of_block bk 1
      have cbk2 := Joins.cell_of_block bk 2
      have cbk3 := Joins.cell_of_block bk 3
      have cbk4 := Joins.cell_of_block bk 4
      have zbk := size_of_block bk
      have cbc0 := Joins.cell_of_block bc 0
      have cbc1 := Joins.cell_of_block bc 1
      have cbc2 := Joins.cell_of_block bc 2
      have cbc3 := Joins.cell_of_block bc 3
      have zbc := size_of_block bc
      go_wp2_with fail
      refine (YW.out _ _ w4 (HK.out.later hB) (HT.out.later hB)).mono ?_
      rintro e w5 ⟨rfl, hF⟩
      clear cbk0 cbk1 cbk2 cbk3 cbk4 zbk cbc0 cbc1 cbc2 cbc3 zbc
      replace bk := (hF.block _ (size_of_block bk)).trans bk
      replace bc := (hF.block _ (size_of_block bc)).trans bc
      replace hTT := own_later hTT hF
      replace hB := below_then hB hF
      clear hF
      have cbc0 := Joins.cell_of_block bc 0
      have cbc1 := Joins.cell_of_block bc 1
      have cbc2 := Joins.cell_of_block bc 2
      have cbc3 := Joins.cell_of_block bc 3
      have zbc := size_of_block bc
      go_wp2_with fail
      all_goals (go_ret; exact ⟨by rw [HE.out]; rfl, hB⟩)
    · have hne : ps ≠ m := fun h => h8 ⟨rfl, h, rfl⟩
      have d1 : (ps != m) = true := by simpa using hne
      clear h8
      obtain ⟨A1, c1, A2, c2, A3, c3, rfl⟩ := kilnForm hk
      have HK := Lib.hid hk
      have HP := Lib.hid hp
      have HT := Lib.hid ht
      clear hk hp ht
      go_enter Tryz.func32, Tryz.ntmps32
      obtain ⟨bk, bc, -, HB⟩ := two_new' w (.cells #[.int .i64 k.room, .int .i64 k.per, .slice A1 k.ls.length c1, .slice A2 k.ds.length c2, .slice A3 k.ws.length c3] 26) (.cells #[.int .i64 m, .slice P0 p.length e0, .slice P1 tl.length e1, .slice P2 td.length e2] 54)
      have cbk0 := Joins.cell_of_block bk 0
      have cbk1 := Joins.cell_of_block bk 1
      have cbk2 := Joins.cell_of_block bk 2
      have cbk3 := Joins.cell_of_block bk 3
      have cbk4 := Joins.cell_of_block bk 4
      have zbk := size_of_block bk
      go_wp2_with fail
      generalize ((w.alloc (.cells #[.int .i64 k.room, .int .i64 k.per, .slice A1 k.ls.length c1, .slice A2 k.ds.length c2, .slice A3 k.ws.length c3] 26)).alloc (.cells #[.int .i64 m, .slice P0 p.length e0, .slice P1 tl.length e1, .slice P2 td.length e2] 54)) = w1 at bk bc HB cbk0 cbk1 cbk2 cbk3 cbk4 zbk ⊢
      have hB := HB
      clear HB
      refine (YM.out _ w1 (HK.out.later hB)).mono ?_
      rintro e w2 ⟨rfl, hF⟩
      clear cbk0 cbk1 cbk2 cbk3 cbk4 zbk
      replace bk := (hF.block _ (size_of_block bk)).trans bk
      replace bc := (hF.block _ (size_of_block bc)).trans bc
      replace hB := below_then hB hF
      clear hF
      have cbk0 := Joins.cell_of_block bk 0
      have cbk1 := Joins.cell_of_block bk 1
      have cbk2 := Joins.cell_of_block bk 2
      have cbk3 := Joins.cell_of_block bk 3
      have cbk4 := Joins.cell_of_block bk 4
      have zbk := size_of_block bk
      have cbc0 := Joins.cell_of_block bc 0
      have cbc1 := Joins.cell_of_block bc 1
      have cbc2 := Joins.cell_of_block bc 2
      have cbc3 := Joins.cell_of_block bc 3
      have zbc := size_of_block bc
      go_wp2_with fail
      all_goals (try (exfalso; omega))
      refine (rties_c k _ w2 (HK.out.later hB) HR.out.small).mono ?_
      rintro e w3 ⟨u, rfl, hTT, hF⟩
      clear cbk0 cbk1 cbk2 cbk3 cbk4 zbk cbc0 cbc1 cbc2 cbc3 zbc
      replace bk := (hF.block _ (size_of_block bk)).trans bk
      replace bc := (hF.block _ (size_of_block bc)).trans bc
      replace hB := below_then hB hF
      clear hF
      have cbc0 := Joins.cell_of_block bc 0
      have cbc1 := Joins.cell_of_block bc 1
      have cbc2 := Joins.cell_of_block bc 2
      have cbc3 := Joins.cell_of_block bc 3
      have zbc := size_of_block bc
      go_wp2_with fail
      refine (YP.out u w3 (OwnTies.at_ hTT (by have := tiesL_len HR.out.small; omega)) (HP.out.later hB)).mono ?_
      rintro e w4 ⟨rfl, hF⟩
      clear cbc0 cbc1 cbc2 cbc3 zbc
      replace bk := (hF.block _ (size_of_block bk)).trans bk
      replace bc := (hF.block _ (size_of_block bc)).trans bc
      replace hTT := own_later hTT hF
      replace hB := below_then hB hF
      clear hF
      have cbk0 := Joins.cell_of_block bk 0
      have cbk1 := Joins.cell_of_block bk 1
      have cbk2 := Joins.cell_of_block bk 2
      have cbk3 := Joins.cell_of_block bk 3
      have cbk4 := Joins.cell_of_block bk 4
      have zbk := size_of_block bk
      have cbc0 := Joins.cell_of_block bc 0
      have cbc1 := Joins.cell_of_block bc 1
      have cbc2 := Joins.cell_of_block bc 2
      have cbc3 := Joins.cell_of_block bc 3
      have zbc := size_of_block bc
      go_wp2_with fail
      refine (YW.out _ _ w4 (HK.out.later hB) (HT.out.later hB)).mono ?_
      rintro e w5 ⟨rfl, hF⟩
      clear cbk0 cbk1 cbk2 cbk3 cbk4 zbk cbc0 cbc1 cbc2 cbc3 zbc
      replace bk := (hF.block _ (size_of_block bk)).trans bk
      replace bc := (hF.block _ (size_of_block bc)).trans bc
      replace hTT := own_later hTT hF
      replace hB := below_then hB hF
      clear hF
      have cbc0 := Joins.cell_of_block bc 0
      have cbc1 := Joins.cell_of_block bc 1
      have cbc2 := Joins.cell_of_block bc 2
      have cbc3 := Joins.cell_of_block bc 3
      have zbc := size_of_block bc
      go_wp2_with fail
      all_goals (try (exfalso; omega))
      all_goals (go_ret; exact ⟨by rw [HE.out]; rfl, hB⟩)
set_option maxRecDepth 100000 in
set_option maxHeartbeats 4000000 in
theorem rCA_go (k : Kl) (v : Value) (fr to m : Int) (P0 P1 P2 : Option Addr) (e0 e1 e2 : Nat) (p tl td : List Int) (w : World) (hk : Kiln w v k) (hp : Ints w w.heap.size (.slice P0 p.length e0) p) (ht : Truth w (.agg #[.slice P1 tl.length e1, .slice P2 td.length e2]) tl td) (hc : marksI k fr to = 0) (hl : p.length ≤ 200) (h1 : (pathI (tiesL k) p fr to).2 = true) (h2 : (pathI (tiesL k) p fr to).1 = m) (hw : (wtsB tl k.ls.length && wtsB td k.ds.length) = true) : Calls Tryz.prog 32 #[v, .int .i64 fr, .int .i64 to, .agg #[.int .i64 m, .slice P0 p.length e0, .slice P1 tl.length e1, .slice P2 td.length e2]] w fun e w' => e = .returned (.int .i64 (aboveC k fr to m p tl td)) ∧ Below w.heap.size w w' := by
  have hc0 : checkI k = 0 := by
    unfold marksI at hc
    split at hc
    · rename_i h; exact absurd hc h
    · rename_i h; simpa using h
  have hrg : (0 ≤ fr ∧ fr < mN k) ∧ 0 ≤ to ∧ to < mN k := by
    unfold marksI at hc
    rw [if_neg (by simp [hc0])] at hc
    split at hc
    · rename_i h; unfold mN; omega
    · cases hc
  have hR := right_of_check hc0
  have HR := Lib.hid hR
  have hlen := tiesL_len hR.small
  have HEE := Lib.hid (show aboveC k fr to m p tl td = if walkI (tiesL k) p fr 0 = some (to, m) ∧ fitsB k tl td = true ∧ hgt k.ls.length tl td to - hgt k.ls.length tl td fr = m then 0 else 8 by unfold aboveC; rw [if_neg (show ¬ marksI k fr to ≠ 0 by simp [hc]), if_neg (show ¬ 200 < p.length by omega)])
  have yM := fun v W h => rmarked_c k v fr to W h
  rw [hc] at yM
  have YM := Lib.hid yM
  have d0 : decide ((p.length : Int) > 200) = false := decide_eq_false (by omega)
  have yP := fun u W h1 h2 => rpath_c u (.slice P0 p.length e0) (tiesL k) p fr to W h1 h2 hR.small.ties (by omega) (by omega)
  obtain ⟨ps, hps⟩ : ∃ x, x = (pathI (tiesL k) p fr to).1 := ⟨_, rfl⟩
  obtain ⟨pb, hpb⟩ : ∃ x, x = (pathI (tiesL k) p fr to).2 := ⟨_, rfl⟩
  rw [← hps, ← hpb] at yP
  have YP := Lib.hid yP
  have yW := fun v t W h1 h2 => rweights_c k v t tl td W h1 h2
  obtain ⟨wb, hwb⟩ : ∃ x, x = (wtsB tl k.ls.length && wtsB td k.ds.length) := ⟨_, rfl⟩
  rw [← hwb] at yW
  have YW := Lib.hid yW
  clear yM yP yW
  obtain ⟨w1, w2⟩ : wtsB tl k.ls.length = true ∧ wtsB td k.ds.length = true := by simpa using hw
  have hwp := walk_path h1 h2
  rw [← hpb] at h1
  rw [← hps] at h2
  rw [← hwb] at hw
  clear hps hpb hwb
  replace h2 := h2.symm
  subst h1 hw h2
  have hmn := mN_eq k
  have hok : NetOk (tiesL k) (mN k : Nat) := by rw [← hmn]; exact net_ok hR
  have l1 := (wtsB_iff.1 w1).1
  have l2 := (wtsB_iff.1 w2).1
  have n1 := hR.ls
  have n2 := hR.ds
  obtain ⟨⟨hf0, hf1⟩, ho0, ho1⟩ := hrg
  obtain ⟨x, rfl⟩ := Int.eq_ofNat_of_zero_le hf0
  obtain ⟨y, rfl⟩ := Int.eq_ofNat_of_zero_le ho0
  have yK := fun v u W a b => rkept_c (tiesL k) (hgt k.ls.length tl td) (mN k) v u (hL tl td tl.length td.length) W a b hok (by rw [hL_len]; unfold mN; omega) (fun x hx => by rw [hL_at tl td (by unfold mN at hx; omega), l1]) (fun x _ => by have := hgt_rng w1 w2 (by omega) (by omega) (x : Int); omega)
  have yH := fun v W a => rheights_c tl td v W a (by rw [l1]; exact w1) (by rw [l2]; exact w2) (by omega) (by omega)
  have YH := Lib.hid yH
  have hlen2 := hL_len tl td tl.length td.length
  have hax : (hL tl td tl.length td.length)[x]? = some (hgt k.ls.length tl td x) := by rw [hL_at tl td (by unfold mN at hf1; omega), l1]
  have hay : (hL tl td tl.length td.length)[y]? = some (hgt k.ls.length tl td y) := by rw [hL_at tl td (by unfold mN at ho1; omega), l1]
  have rx := hgt_rng w1 w2 (by omega) (by omega) (x : Int)
  have ry := hgt_rng w1 w2 (by omega) (by omega) (y : Int)
  have HTX := Lib.hid (show fitsB k tl td = (badAt (tiesL k) (hgt k.ls.length tl td)).isNone by unfold fitsB; rw [fitsE_zero.2 ⟨hc0, w1, w2⟩]; rfl)
  obtain ⟨i9, b9, hkv, HKV⟩ : ∃ (i : Int) (b9 : Bool), keptV (tiesL k) (hgt k.ls.length tl td) = #[.int .i64 i, .bool b9, .int .i64 0] ∧ Hid (fitsB k tl td = b9) := by
    rw [HTX.out]
    unfold keptV
    cases hb : badAt (tiesL k) (hgt k.ls.length tl td) with
    | some i => exact ⟨i, false, rfl, Lib.hid rfl⟩
    | none => exact ⟨0, true, rfl, Lib.hid rfl⟩
  rw [hkv] at yK
  have YK := Lib.hid yK
  obtain ⟨gx, hgx⟩ : ∃ q, q = hgt k.ls.length tl td x := ⟨_, rfl⟩
  obtain ⟨gy, hgy⟩ : ∃ q, q = hgt k.ls.length tl td y := ⟨_, rfl⟩
  rw [← hgx] at hax rx HEE
  rw [← hgy] at hay ry HEE
  have HLN := Lib.hid (⟨by omega, by unfold mN at hf1; omega, by unfold mN at ho1; omega⟩ : (hL tl td tl.length td.length).length ≤ 100 ∧ x < (hL tl td tl.length td.length).length ∧ y < (hL tl td tl.length td.length).length)
  obtain ⟨hl9, hl9e⟩ : ∃ q, q = hL tl td tl.length td.length := ⟨_, rfl⟩
  rw [← hl9e] at YH YK HLN hax hay
  have hwr : IntKind.i64.wrap (gy - gx) = gy - gx := by rw [IntKind.wrap_i64]; omega
  have HAX := Lib.hid hax
  have HAY := Lib.hid hay
  have HWP := Lib.hid hwp
  clear hl9e hgx hgy hkv yK yH hok hR hlen2 l1 l2 w1 w2 HTX hmn hf0 ho0 hax hay hwp hlen hc0 hc rx ry n1 n2
  obtain ⟨A1, c1, A2, c2, A3, c3, rfl⟩ := kilnForm hk
  have HK := Lib.hid hk
  have HP := Lib.hid hp
  have HT := Lib.hid ht
  clear hk hp ht
  go_enter Tryz.func32, Tryz.ntmps32
  obtain ⟨bk, bc, -, HB⟩ := two_new' w (.cells #[.int .i64 k.room, .int .i64 k.per, .slice A1 k.ls.length c1, .slice A2 k.ds.length c2, .slice A3 k.ws.length c3] 26) (.cells #[.int .i64 m, .slice P0 p.length e0, .slice P1 tl.length e1, .slice P2 td.length e2] 54)
  have cbk0 := Joins.cell_of_block bk 0
  have cbk1 := Joins.cell_of_block bk 1
  have cbk2 := Joins.cell_of_block bk 2
  have cbk3 := Joins.cell_of_block bk 3
  have cbk4 := Joins.cell_of_block bk 4
  have zbk := size_of_block bk
  go_wp2_with fail
  generalize ((w.alloc (.cells #[.int .i64 k.room, .int .i64 k.per, .slice A1 k.ls.length c1, .slice A2 k.ds.length c2, .slice A3 k.ws.length c3] 26)).alloc (.cells #[.int .i64 m, .slice P0 p.length e0, .slice P1 tl.length e1, .slice P2 td.length e2] 54)) = w1 at bk bc HB cbk0 cbk1 cbk2 cbk3 cbk4 zbk ⊢
  have hB := HB
  clear HB
  refine (YM.out _ w1 (HK.out.later hB)).mono ?_
  rintro e w2 ⟨rfl, hF⟩
  clear cbk0 cbk1 cbk2 cbk3 cbk4 zbk
  replace bk := (hF.block _ (size_of_block bk)).trans bk
  replace bc := (hF.block _ (size_of_block bc)).trans bc
  replace hB := below_then hB hF
  clear hF
  have cbk0 := Joins.cell_of_block bk 0
  have cbk1 := Joins.cell_of_block bk 1
  have cbk2 := Joins.cell_of_block bk 2
  have cbk3 := Joins.cell_of_block bk 3
  have cbk4 := Joins.cell_of_block bk 4
  have zbk := size_of_block bk
  have cbc0 := Joins.cell_of_block bc 0
  have cbc1 := Joins.cell_of_block bc 1
  have cbc2 := Joins.cell_of_block bc 2
  have cbc3 := Joins.cell_of_block bc 3
  have zbc := size_of_block bc
  go_wp2_with fail
  all_goals (try (exfalso; omega))
  refine (rties_c k _ w2 (HK.out.later hB) HR.out.small).mono ?_
  rintro e w3 ⟨u, rfl, hTT, hF⟩
  clear cbk0 cbk1 cbk2 cbk3 cbk4 zbk cbc0 cbc1 cbc2 cbc3 zbc
  replace bk := (hF.block _ (size_of_block bk)).trans bk
  replace bc := (hF.block _ (size_of_block bc)).trans bc
  replace hB := below_then hB hF
  clear hF
  have cbc0 := Joins.cell_of_block bc 0
  have cbc1 := Joins.cell_of_block bc 1
  have cbc2 := Joins.cell_of_block bc 2
  have cbc3 := Joins.cell_of_block bc 3
  have zbc := size_of_block bc
  go_wp2_with fail
  refine (YP.out u w3 (OwnTies.at_ hTT (by have := tiesL_len HR.out.small; omega)) (HP.out.later hB)).mono ?_
  rintro e w4 ⟨rfl, hF⟩
  clear cbc0 cbc1 cbc2 cbc3 zbc
  replace bk := (hF.block _ (size_of_block bk)).trans bk
  replace bc := (hF.block _ (size_of_block bc)).trans bc
  replace hTT := own_later hTT hF
  replace hB := below_then hB hF
  clear hF
  have cbk0 := Joins.cell_of_block bk 0
  have cbk1 := Joins.cell_of_block bk 1
  have cbk2 := Joins.cell_of_block bk 2
  have cbk3 := Joins.cell_of_block bk 3
  have cbk4 := Joins.cell_of_block bk 4
  have zbk := size_of_block bk
  have cbc0 := Joins.cell_of_block bc 0
  have cbc1 := Joins.cell_of_block bc 1
  have cbc2 := Joins.cell_of_block bc 2
  have cbc3 := Joins.cell_of_block bc 3
  have zbc := size_of_block bc
  go_wp2_with fail
  refine (YW.out _ _ w4 (HK.out.later hB) (HT.out.later hB)).mono ?_
  rintro e w5 ⟨rfl, hF⟩
  clear cbk0 cbk1 cbk2 cbk3 cbk4 zbk cbc0 cbc1 cbc2 cbc3 zbc
  replace bk := (hF.block _ (size_of_block bk)).trans bk
  replace bc := (hF.block _ (size_of_block bc)).trans bc
  replace hTT := own_later hTT hF
  replace hB := below_then hB hF
  clear hF
  have cbc0 := Joins.cell_of_block bc 0
  have cbc1 := Joins.cell_of_block bc 1
  have cbc2 := Joins.cell_of_block bc 2
  have cbc3 := Joins.cell_of_block bc 3
  have zbc := size_of_block bc
  go_wp2_with fail
  refine (YH.out _ w5 (HT.out.later hB)).mono ?_
  rintro e w6 ⟨hv9, rfl, hHH, hF⟩
  clear cbc0 cbc1 cbc2 cbc3 zbc
  replace bk := (hF.block _ (size_of_block bk)).trans bk
  replace bc := (hF.block _ (size_of_block bc)).trans bc
  replace hTT := own_later hTT hF
  replace hB := below_then hB hF
  clear hF
  obtain ⟨G1, g9, rfl⟩ := own_form hHH
  go_wp2_with fail
  refine (YK.out _ _ w6 (OwnTies.at_ hTT (by have := tiesL_len HR.out.small; omega)) (Ints.of_own hHH (by have := HLN.out; omega))).mono ?_
  rintro e w7 ⟨rfl, hF⟩
  replace bk := (hF.block _ (size_of_block bk)).trans bk
  replace bc := (hF.block _ (size_of_block bc)).trans bc
  replace hTT := own_later hTT hF
  replace hHH := own_later hHH hF
  replace hB := below_then hB hF
  clear hF
  have b15 := heap_alloc_new w7 (.cells #[.int .i64 i9, .bool b9, .int .i64 0] 42)
  have HB := below_alloc w7 (.cells #[.int .i64 i9, .bool b9, .int .i64 0] 42)
  go_wp2_with fail
  generalize (w7.alloc (.cells #[.int .i64 i9, .bool b9, .int .i64 0] 42)) = w8 at b15 HB  ⊢
  replace bk := (HB.block _ (size_of_block bk)).trans bk
  replace bc := (HB.block _ (size_of_block bc)).trans bc
  replace hTT := own_later hTT HB
  replace hHH := own_later hHH HB
  replace hB := below_then hB HB
  clear HB
  have hII := Ints.of_own hHH (by have := HLN.out; omega)
  obtain ⟨G1', g9', e7, _, _, hga⟩ := Ints.open_ hII
  obtain ⟨rfl, rfl⟩ : G1 = G1' ∧ g9 = g9' := by simpa using e7
  obtain ⟨gb, go, qx, rfl, gz, hqx, fx⟩ := hga x HLN.out.2.1
  obtain ⟨gb', go', qy, e6, _, hqy, fy⟩ := hga y HLN.out.2.2
  obtain ⟨rfl, rfl⟩ : gb = gb' ∧ go = go' := by simpa using e6
  obtain rfl : gx = qx := by have := HAX.out; rw [hqx] at this; simpa using this.symm
  obtain rfl : gy = qy := by have := HAY.out; rw [hqy] at this; simpa using this.symm
  have hx9 := HLN.out.2.1
  have hy9 := HLN.out.2.2
  clear hga hII e7 e6 hqx hqy
  cases b9
  · have HE := Lib.hid (show aboveC k x y m p tl td = 8 by rw [HEE.out]; exact if_neg (fun h => by rw [HKV.out] at h; cases h.2.1))
    go_wp2_with fail
    refine wp_region_planW [.f [0, 1, 2, 3, 4, 5, 6, 7, 8, 9, 10, 11, 12, 13, 14, 15, 16]] [] (by kernel_rfl) (by kernel_rfl) (by intro c a d v w h; cases d <;> exact h) ?_
    intro p9_0 hu
    replace bk := (hu.block _ (size_of_block bk)).trans bk
    replace bc := (hu.block _ (size_of_block bc)).trans bc
    replace b15 := (hu.block _ (size_of_block b15)).trans b15
    replace hTT := own_later hTT hu
    replace hHH := own_later hHH hu
    replace fx := (hu.cell (p := ⟨gb, go + x, none⟩) gz).trans fx
    replace fy := (hu.cell (p := ⟨gb, go + y, none⟩) gz).trans fy
    replace gz := Nat.lt_of_lt_of_le gz hu.size
    replace hB := below_then hB hu
    clear hu
    refine wpPlanW_r ?_
    simp only [pick, List.filterMap_cons, List.filterMap_nil, List.getElem?_toArray, List.getElem?_cons_succ, List.getElem?_cons_zero]
    have cb150 := Joins.cell_of_block b15 0
    have cb151 := Joins.cell_of_block b15 1
    have cb152 := Joins.cell_of_block b15 2
    have zb15 := size_of_block b15
    have cbc0 := Joins.cell_of_block bc 0
    have cbc1 := Joins.cell_of_block bc 1
    have cbc2 := Joins.cell_of_block bc 2
    have cbc3 := Joins.cell_of_block bc 3
    have zbc := size_of_block bc
    have hcg : ∀ (g : Gr p9_0) b o, b < p9_0.heap.size → g.val.cell? ⟨b, o, none⟩ = p9_0.cell? ⟨b, o, none⟩ := fun g b o h => (bcell g.b).1 b o h
    refine WR.step (by kernel_rfl) (fun K hK => ?_); go_simp; refine hK _ ?_; clear hK K
    refine WR.step (by kernel_rfl) (fun K hK => ?_); go_simp; refine hK _ ?_; clear hK K
    refine WR.val (.bool true) (by kernel_rfl) (by intro g; first | (simp [execOp, go_sem]; done) | kernel_rfl) ?_
    refine WR.val (.bool true) (by kernel_rfl) (by intro g; first | (simp [execOp, go_sem]; done) | kernel_rfl) ?_
    refine WR.pass (by kernel_rfl) ?_
    refine WR.pass (by kernel_rfl) ?_
    refine WR.pass (by kernel_rfl) ?_
    refine WR.pass (by kernel_rfl) ?_
    refine WR.pass (by kernel_rfl) ?_
    refine WR.pass (by kernel_rfl) ?_
    refine WR.pass (by kernel_rfl) ?_
    refine WR.pass (by kernel_rfl) ?_
    refine WR.pass (by kernel_rfl) ?_
    refine WR.pass (by kernel_rfl) ?_
    refine WR.pass (by kernel_rfl) ?_
    refine WR.pass (by kernel_rfl) ?_
    refine WR.val (.bool true) (by kernel_rfl) (by intro g; first | (simp [execOp, go_sem]; done) | kernel_rfl) ?_
    go_simp
    refine WR.nil fun p9_1 hb => ?_
    clear hcg cb150 cb151 cb152 zb15 cbc0 cbc1 cbc2 cbc3 zbc
    replace bk := (hb.block _ (size_of_block bk)).trans bk
    replace bc := (hb.block _ (size_of_block bc)).trans bc
    replace b15 := (hb.block _ (size_of_block b15)).trans b15
    replace hTT := own_later hTT hb
    replace hHH := own_later hHH hb
    replace fx := (hb.cell (p := ⟨gb, go + x, none⟩) gz).trans fx
    replace fy := (hb.cell (p := ⟨gb, go + y, none⟩) gz).trans fy
    replace gz := Nat.lt_of_lt_of_le gz hb.size
    replace hB := below_then hB hb
    clear hb
    refine wpPlanW_nil ?_
    show wpList _ _ _ _ _ _
    skip
    go_wp2_with fail
    go_ret
    exact ⟨by rw [HE.out]; rfl, hB⟩
  · cases hbb : (gy - gx != m)
    · have HE := Lib.hid (show aboveC k x y m p tl td = 0 by rw [HEE.out]; exact if_pos ⟨HWP.out, HKV.out, by simpa using hbb⟩)
      go_wp2_with fail
      refine wp_region_planW [.f [0, 1, 2, 3, 4, 5, 6, 7, 8, 9, 10, 11, 12, 13, 14, 15, 16]] [] (by kernel_rfl) (by kernel_rfl) (by intro c a d v w h; cases d <;> exact h) ?_
      intro p9_0 hu
      replace bk := (hu.block _ (size_of_block bk)).trans bk
      replace bc := (hu.block _ (size_of_block bc)).trans bc
      replace b15 := (hu.block _ (size_of_block b15)).trans b15
      replace hTT := own_later hTT hu
      replace hHH := own_later hHH hu
      replace fx := (hu.cell (p := ⟨gb, go + x, none⟩) gz).trans fx
      replace fy := (hu.cell (p := ⟨gb, go + y, none⟩) gz).trans fy
      replace gz := Nat.lt_of_lt_of_le gz hu.size
      replace hB := below_then hB hu
      clear hu
      refine wpPlanW_r ?_
      simp only [pick, List.filterMap_cons, List.filterMap_nil, List.getElem?_toArray, List.getElem?_cons_succ, List.getElem?_cons_zero]
      have cb150 := Joins.cell_of_block b15 0
      have cb151 := Joins.cell_of_block b15 1
      have cb152 := Joins.cell_of_block b15 2
      have zb15 := size_of_block b15
      have cbc0 := Joins.cell_of_block bc 0
      have cbc1 := Joins.cell_of_block bc 1
      have cbc2 := Joins.cell_of_block bc 2
      have cbc3 := Joins.cell_of_block bc 3
      have zbc := size_of_block bc
      have hcg : ∀ (g : Gr p9_0) b o, b < p9_0.heap.size → g.val.cell? ⟨b, o, none⟩ = p9_0.cell? ⟨b, o, none⟩ := fun g b o h => (bcell g.b).1 b o h
      refine WR.step (by kernel_rfl) (fun K hK => ?_); go_simp; refine hK _ ?_; clear hK K
      refine WR.step (by kernel_rfl) (fun K hK => ?_); go_simp; refine hK _ ?_; clear hK K
      refine WR.val (.bool false) (by kernel_rfl) (by intro g; first | (simp [execOp, go_sem]; done) | kernel_rfl) ?_
      refine WR.val (.bool false) (by kernel_rfl) (by intro g; first | (simp [execOp, go_sem]; done) | kernel_rfl) ?_
      refine WR.step (by kernel_rfl) (fun K hK => ?_); go_simp; refine hK _ ?_; clear hK K
      refine WR.step (by kernel_rfl) (fun K hK => ?_); go_simp; refine hK _ ?_; clear hK K
      refine WR.step (by kernel_rfl) (fun K hK => ?_); go_simp; refine hK _ ?_; clear hK K
      refine WR.step (by kernel_rfl) (fun K hK => ?_); go_simp; refine hK _ ?_; clear hK K
      refine WR.step (by kernel_rfl) (fun K hK => ?_); go_simp; refine hK _ ?_; clear hK K
      refine WR.step (by kernel_rfl) (fun K hK => ?_); go_simp; refine hK _ ?_; clear hK K
      refine WR.step (by kernel_rfl) (fun K hK => ?_); go_simp; refine hK _ ?_; clear hK K
      refine WR.step (by kernel_rfl) (fun K hK => ?_); go_simp; refine hK _ ?_; clear hK K
      refine WR.val (.int .i64 (gy - gx)) (by kernel_rfl) (by intro g; simp [execOp, go_sem, hwr]) ?_
      refine WR.step (by kernel_rfl) (fun K hK => ?_); go_simp; refine hK _ ?_; clear hK K
      refine WR.step (by kernel_rfl) (fun K hK => ?_); go_simp; refine hK _ ?_; clear hK K
      refine WR.val (.bool false) (by kernel_rfl) (by intro g; simp only [execOp, go_sem]; simp [go_sem, hbb]) ?_
      refine WR.val (.bool false) (by kernel_rfl) (by intro g; first | (simp [execOp, go_sem]; done) | kernel_rfl) ?_
      go_simp
      refine WR.nil fun p9_1 hb => ?_
      clear hcg cb150 cb151 cb152 zb15 cbc0 cbc1 cbc2 cbc3 zbc
      replace bk := (hb.block _ (size_of_block bk)).trans bk
      replace bc := (hb.block _ (size_of_block bc)).trans bc
      replace b15 := (hb.block _ (size_of_block b15)).trans b15
      replace hTT := own_later hTT hb
      replace hHH := own_later hHH hb
      replace fx := (hb.cell (p := ⟨gb, go + x, none⟩) gz).trans fx
      replace fy := (hb.cell (p := ⟨gb, go + y, none⟩) gz).trans fy
      replace gz := Nat.lt_of_lt_of_le gz hb.size
      replace hB := below_then hB hb
      clear hb
      refine wpPlanW_nil ?_
      show wpList _ _ _ _ _ _
      skip
      go_wp2_with fail
      go_ret
      exact ⟨by rw [HE.out]; rfl, hB⟩
    · have HE := Lib.hid (show aboveC k x y m p tl td = 8 by rw [HEE.out]; exact if_neg (fun h => by rw [bne_iff_ne] at hbb; exact hbb h.2.2))
      go_wp2_with fail
      refine wp_region_planW [.f [0, 1, 2, 3, 4, 5, 6, 7, 8, 9, 10, 11, 12, 13, 14, 15, 16]] [] (by kernel_rfl) (by kernel_rfl) (by intro c a d v w h; cases d <;> exact h) ?_
      intro p9_0 hu
      replace bk := (hu.block _ (size_of_block bk)).trans bk
      replace bc := (hu.block _ (size_of_block bc)).trans bc
      replace b15 := (hu.block _ (size_of_block b15)).trans b15
      replace hTT := own_later hTT hu
      replace hHH := own_later hHH hu
      replace fx := (hu.cell (p := ⟨gb, go + x, none⟩) gz).trans fx
      replace fy := (hu.cell (p := ⟨gb, go + y, none⟩) gz).trans fy
      replace gz := Nat.lt_of_lt_of_le gz hu.size
      replace hB := below_then hB hu
      clear hu
      refine wpPlanW_r ?_
      simp only [pick, List.filterMap_cons, List.filterMap_nil, List.getElem?_toArray, List.getElem?_cons_succ, List.getElem?_cons_zero]
      have cb150 := Joins.cell_of_block b15 0
      have cb151 := Joins.cell_of_block b15 1
      have cb152 := Joins.cell_of_block b15 2
      have zb15 := size_of_block b15
      have cbc0 := Joins.cell_of_block bc 0
      have cbc1 := Joins.cell_of_block bc 1
      have cbc2 := Joins.cell_of_block bc 2
      have cbc3 := Joins.cell_of_block bc 3
      have zbc := size_of_block bc
      have hcg : ∀ (g : Gr p9_0) b o, b < p9_0.heap.size → g.val.cell? ⟨b, o, none⟩ = p9_0.cell? ⟨b, o, none⟩ := fun g b o h => (bcell g.b).1 b o h
      refine WR.step (by kernel_rfl) (fun K hK => ?_); go_simp; refine hK _ ?_; clear hK K
      refine WR.step (by kernel_rfl) (fun K hK => ?_); go_simp; refine hK _ ?_; clear hK K
      refine WR.val (.bool false) (by kernel_rfl) (by intro g; first | (simp [execOp, go_sem]; done) | kernel_rfl) ?_
      refine WR.val (.bool false) (by kernel_rfl) (by intro g; first | (simp [execOp, go_sem]; done) | kernel_rfl) ?_
      refine WR.step (by kernel_rfl) (fun K hK => ?_); go_simp; refine hK _ ?_; clear hK K
      refine WR.step (by kernel_rfl) (fun K hK => ?_); go_simp; refine hK _ ?_; clear hK K
      refine WR.step (by kernel_rfl) (fun K hK => ?_); go_simp; refine hK _ ?_; clear hK K
      refine WR.step (by kernel_rfl) (fun K hK => ?_); go_simp; refine hK _ ?_; clear hK K
      refine WR.step (by kernel_rfl) (fun K hK => ?_); go_simp; refine hK _ ?_; clear hK K
      refine WR.step (by kernel_rfl) (fun K hK => ?_); go_simp; refine hK _ ?_; clear hK K
      refine WR.step (by kernel_rfl) (fun K hK => ?_); go_simp; refine hK _ ?_; clear hK K
      refine WR.step (by kernel_rfl) (fun K hK => ?_); go_simp; refine hK _ ?_; clear hK K
      refine WR.val (.int .i64 (gy - gx)) (by kernel_rfl) (by intro g; simp [execOp, go_sem, hwr]) ?_
      refine WR.step (by kernel_rfl) (fun K hK => ?_); go_simp; refine hK _ ?_; clear hK K
      refine WR.step (by kernel_rfl) (fun K hK => ?_); go_simp; refine hK _ ?_; clear hK K
      refine WR.val (.bool true) (by kernel_rfl) (by intro g; simp only [execOp, go_sem]; simp [go_sem, hbb]) ?_
      refine WR.val (.bool true) (by kernel_rfl) (by intro g; first | (simp [execOp, go_sem]; done) | kernel_rfl) ?_
      go_simp
      refine WR.nil fun p9_1 hb => ?_
      clear hcg cb150 cb151 cb152 zb15 cbc0 cbc1 cbc2 cbc3 zbc
      replace bk := (hb.block _ (size_of_block bk)).trans bk
      replace bc := (hb.block _ (size_of_block bc)).trans bc
      replace b15 := (hb.block _ (size_of_block b15)).trans b15
      replace hTT := own_later hTT hb
      replace hHH := own_later hHH hb
      replace fx := (hb.cell (p := ⟨gb, go + x, none⟩) gz).trans fx
      replace fy := (hb.cell (p := ⟨gb, go + y, none⟩) gz).trans fy
      replace gz := Nat.lt_of_lt_of_le gz hb.size
      replace hB := below_then hB hb
      clear hb
      refine wpPlanW_nil ?_
      show wpList _ _ _ _ _ _
      skip
      go_wp2_with fail
      go_ret
      exact ⟨by rw [HE.out]; rfl, hB⟩
theorem rCheckAbove_c (k : Kl) (v : Value) (fr to m : Int) (P0 P1 P2 : Option Addr) (e0 e1 e2 : Nat) (p tl td : List Int) (w : World) (hk : Kiln w v k) (hp : Ints w w.heap.size (.slice P0 p.length e0) p) (ht : Truth w (.agg #[.slice P1 tl.length e1, .slice P2 td.length e2]) tl td) : Calls Tryz.prog 32 #[v, .int .i64 fr, .int .i64 to, .agg #[.int .i64 m, .slice P0 p.length e0, .slice P1 tl.length e1, .slice P2 td.length e2]] w fun e w' => e = .returned (.int .i64 (aboveC k fr to m p tl td)) ∧ Below w.heap.size w w' := by
  by_cases hc : marksI k fr to = 0
  · by_cases hl : 200 < p.length
    · exact rCA_long k v fr to m P0 P1 P2 e0 e1 e2 p tl td w hk hp ht hc hl
    · by_cases h8 : (pathI (tiesL k) p fr to).2 = true ∧ (pathI (tiesL k) p fr to).1 = m ∧ (wtsB tl k.ls.length && wtsB td k.ds.length) = true
      · exact rCA_go k v fr to m P0 P1 P2 e0 e1 e2 p tl td w hk hp ht hc (by omega) h8.1 h8.2.1 h8.2.2
      · exact rCA_no k v fr to m P0 P1 P2 e0 e1 e2 p tl td w hk hp ht hc (by omega) h8
  · exact rCA_bad k v fr to m P0 P1 P2 e0 e1 e2 p tl td w hk hp ht hc
end Go.Proofs.YtnedcclmfokdnaaGreat
