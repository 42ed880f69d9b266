import Derived.Test.YtpgepfbdjefmdaaGreatJ25
import Derived.Test.YtpgepfbdjefmdaaGreatZSOverE
namespace Go.Proofs.YtpgepfbdjefmdaaGreat
open Go Go.RowKit Go.Shelf
attribute [local go_sem] Oper.semAt_some Rel RelAt RelUpon
theorem tk_wt {k : Kl} (g : Int → Int) {a b : Pt} (h : PtsOk (tiesL k) (marksN k) a b) : tk (hgt k.ls.length (wtL k.ls.length g) (wtD k g)) a b = tk g a b := by
  unfold tk
  rw [hgt_wt k g h.a1.1 h.a1.2, hgt_wt k g h.a2.1 h.a2.2, hgt_wt k g h.b1.1 h.b1.2, hgt_wt k g h.b2.1 h.b2.2]
  omega
theorem load_w {k : Kl} (hR : Right k) {g : Int → Int} (hk : Keeps (tiesL k) g) {i : Int} (hi : 0 ≤ i ∧ i < k.ls.length) : g (loadP i).own - g (loadP i).ahead ≤ 1048576 := by
  obtain ⟨n, rfl⟩ : ∃ n : Nat, i = n := ⟨i.toNat, by omega⟩
  have hn : n < k.ls.length := by omega
  have h1 := keeps_load hk (List.getElem?_eq_getElem hn)
  have h2 := hR.small.lb n _ (List.getElem?_eq_getElem hn)
  unfold loadP
  dsimp only
  omega
theorem reach_tk {k : Kl} (hR : Right k) {i j : Int} (hi : 0 ≤ i ∧ i < k.ls.length) {N : Int} {M B : Int → Int} (hs : Settled (tiesL k ++ moreT (loadP i) (drawP k j) (mostZ (tiesL k) (loadP i) (drawP k j))) N 0 M B) : Keeps (tiesL k) M ∧ tk M (loadP i) (drawP k j) = mostZ (tiesL k) (loadP i) (drawP k j) := by
  obtain ⟨h1, h2⟩ := keeps_more.1 hs.keeps
  refine ⟨h1, Int.le_antisymm (mostZ_ge h1 (.inl (load_w hR h1 hi))) ?_⟩
  obtain ⟨a1, a2, a3, a4⟩ := keeps_moreT.1 h2
  rw [tk_four]
  omega
theorem none_tk {k : Kl} (hR : Right k) {i j : Int} (hi : 0 ≤ i ∧ i < k.ls.length) {M : Int → Int} (hk : Keeps (tiesL k) M) (h0 : ¬ 0 < mostZ (tiesL k) (loadP i) (drawP k j)) : tk M (loadP i) (drawP k j) = mostZ (tiesL k) (loadP i) (drawP k j) := by
  have h1 := mostZ_ge (b := drawP k j) hk (.inl (load_w hR hk hi))
  have h2 := (mostZ_is (tiesL k) (loadP i) (drawP k j)).1.1
  unfold tk at h1 ⊢
  omega
theorem half_rng2 {N : Nat} {M : Int → Int} (h : ∀ v, 0 ≤ v → v < (N : Int) → -687865856 ≤ M v ∧ M v ≤ 687865856) : ∀ i, i < 41 → -1152921504606846976 ≤ halfN N M i ∧ halfN N M i ≤ 1152921504606846976 := fun i _ => by
  unfold halfN
  split
  · have := h i (by omega) (by omega); omega
  · omega
theorem truthK_c (k : Kl) (v : Value) (M : Int → Int) (i j z : Int) (hR : Right k) (hb : ∀ v, 0 ≤ v → v < ((mN k : Nat) : Int) → -687865856 ≤ M v ∧ M v ≤ 687865856) (hk : Keeps (tiesL k) M) (hp : PtsOk (tiesL k) (marksN k) (loadP i) (drawP k j)) (hz : tk M (loadP i) (drawP k j) = z) :
    ∃ tl td, (True_ k tl td ∧ tk (hgt k.ls.length tl td) (loadP i) (drawP k j) = z) ∧ ∀ W, Kiln W v k → Calls Tryz.prog 89 #[v, .agg (hgA (halfN (mN k) M))] W fun e w' => ∃ u, e = .returned u ∧ OwnTruth w' W.heap.size u tl td ∧ Below W.heap.size W w' :=
  ⟨wtL k.ls.length M, wtD k M, ⟨true_wt hR hk, by rw [tk_wt M hp]; exact hz⟩, fun W hW => by
    have h := truthOf_c k v (halfN (mN k) M) W hW hR.ls hR.ds (half_rng2 hb)
    rw [half_loads (show k.ls.length < mN k by unfold mN; omega), half_draws k (mN_eq k)] at h
    exact h⟩
set_option maxRecDepth 100000 in
set_option maxHeartbeats 4000000 in
theorem Taking_c (k : Kl) (v : Value) (d ld : Int) (w : World) (hv : Kiln w v k) :
    Calls Tryz.prog 47 #[v, .int .i64 d, .int .i64 ld] w fun e w' => ∃ u1 tl1 td1 u2 tl2 td2, e = .returned (.tuple #[u1, u2, .int .i64 (tookE k d ld).2]) ∧ (OwnTruth w' w.heap.size u1 tl1 td1 ∧ OwnTruth w' w.heap.size u2 tl2 td2) ∧
      (((tookE k d ld).2 = 0 → (True_ k tl1 td1 ∧ tk (hgt k.ls.length tl1 td1) (loadP (place k.ls ld)) (drawP k (place k.ds d)) = (tookE k d ld).1.1) ∧ True_ k tl2 td2 ∧ tk (hgt k.ls.length tl2 td2) (loadP (place k.ls ld)) (drawP k (place k.ds d)) = (tookE k d ld).1.2) ∧
        ((tookE k d ld).2 ≠ 0 → tl1 = [] ∧ td1 = [] ∧ tl2 = [] ∧ td2 = [])) ∧ Below w.heap.size w w' := by
  obtain ⟨A1, c1, A2, c2, A3, c3, rfl⟩ := kilnForm hv
  obtain ⟨q0, q1, q2, -, qb⟩ := three_new w (.cells #[.int .i64 k.room, .int .i64 k.per, .slice A1 k.ls.length c1, .slice A2 k.ds.length c2, .slice A3 k.ws.length c3] 26) (.cells #[.slice none 0 0, .slice none 0 0] 29) (.cells #[.slice none 0 0, .slice none 0 0] 29)
  have HKB := Lib.hid hv.toB
  have hk := hv.later qb
  clear hv
  have HTC := Lib.hid (fun W hW => taking_c k (.agg #[.int .i64 k.room, .int .i64 k.per, .slice A1 k.ls.length c1, .slice A2 k.ds.length c2, .slice A3 k.ws.length c3]) d ld W hW)
  go_enter Tryz.func47, Tryz.ntmps47
  have y0 := Joins.cell_of_block q0 0
  have y1 := Joins.cell_of_block q0 1
  have y2 := Joins.cell_of_block q0 2
  have y3 := Joins.cell_of_block q0 3
  have y4 := Joins.cell_of_block q0 4
  go_wp2_with fail
  generalize ((w.alloc _).alloc _).alloc _ = W1 at q0 q1 q2 qb hk ⊢
  refine (HTC.out W1 hk).mono ?_
  rintro e W4 ⟨o, rfl, ⟨ho1, ho2⟩, hF⟩
  replace q0 := (hF.block _ (size_of_block q0)).trans q0
  replace q1 := (hF.block _ (size_of_block q1)).trans q1
  replace q2 := (hF.block _ (size_of_block q2)).trans q2
  replace qb := below_then qb hF
  replace hk := hk.later hF
  clear hF y0 y1 y2 y3 y4 HTC
  have BQ := size_of_block q2
  by_cases hE0 : (tookE k d ld).2 = 0
  · obtain ⟨A, cap, rfl, hT⟩ := ho1 hE0
    obtain ⟨hc0, hpl, hcc⟩ := took_zero.1 hE0
    have hR := right_of_check hc0
    have he : tookE k d ld = ((leastZ (tiesL k) (loadP (place k.ls ld)) (drawP k (place k.ds d)), mostZ (tiesL k) (loadP (place k.ls ld)) (drawP k (place k.ds d))), 0) := by unfold tookE; rw [if_neg (by simp [hc0]), if_neg hpl, if_pos hcc]
    rw [he]
    have ra := place_range k.ls ld
    have rb := place_range k.ds d
    obtain ⟨i, hi⟩ : ∃ i, i = place k.ls ld := ⟨_, rfl⟩
    obtain ⟨j, hj⟩ : ∃ j, j = place k.ds d := ⟨_, rfl⟩
    have HE := Lib.hid he
    rw [← hi, ← hj] at HE
    rw [← hi, ← hj] at hpl ⊢
    rw [← hi] at ra
    rw [← hj] at rb
    have HI := Lib.hid hi.symm
    have HJ := Lib.hid hj.symm
    have hri : 0 ≤ i ∧ i < k.ls.length := by omega
    have hpt := ptsK (k := k) (i := i) (j := j) hri ⟨by omega, by omega⟩
    have hpm := hpt
    have hmn := mN_eq k
    have hok : NetOk (tiesL k) (mN k : Nat) := by rw [← hmn]; exact net_ok hR
    have hre : Reaches (tiesL k) (mN k : Nat) 0 := by rw [← hmn]; exact net_reaches k (by omega) (by rw [hmn]; unfold mN; omega)
    rw [hmn] at hpt ⊢
    have hln := tiesL_len hR.small
    have hn0 : 0 < mN k := by unfold mN; omega
    have HL := Lib.hid (fun W h => least_c (tiesL k) (.slice A (tiesL k).length cap) (mN k) (loadP i) (drawP k j) W h hok hpt (canB_true.1 hcc) (by omega))
    have HM := Lib.hid (fun W h => most_c (tiesL k) A cap (mN k) (loadP i) (drawP k j) W h hok hn0 hre hpt (by omega))
    have HRC := Lib.hid (fun W z (hz : 1 ≤ z ∧ z ≤ 1048576) h => reaches_c (tiesL k) (.slice A (tiesL k).length cap) (mN k) (loadP i) (drawP k j) z W h (ov_net hok hpt hz) hn0 (reaches_more hre) hz (by omega))
    have HK1 := Lib.hid (fun M z hb h1 h2 => truthK_c k (.agg #[.int .i64 k.room, .int .i64 k.per, .slice A1 k.ls.length c1, .slice A2 k.ds.length c2, .slice A3 k.ws.length c3]) M i j z hR hb h1 hpm h2)
    have HKN := Lib.hid (fun M h1 h2 => none_tk (i := i) (j := j) (M := M) hR hri h1 h2)
    have HKR := Lib.hid (fun M B h => reach_tk (i := i) (j := j) (N := ((mN k : Nat) : Int)) (M := M) (B := B) hR hri h)
    have hmz := (mostZ_is (tiesL k) (loadP i) (drawP k j))
    have HMZ := Lib.hid hmz
    have hmr := hmz.1
    unfold ovV at HL HM HRC ⊢
    have d0 : ((0 : Int) != 0) = false := rfl
    clear ho1 ho2 hc0 hpl hcc hR ra rb hpt hpm hmn hok hre hln hE0 hi hj he hri hn0 hmz
    obtain ⟨W5, hW5⟩ : ∃ W5, W5 = (W4.alloc (.cells #[.int .i64 0, .slice none 0 0, .int .i64 0, .int .i64 0, .int .i64 0, .int .i64 0, .int .i64 0, .int .i64 0, .int .i64 0, .int .i64 0] 173)).setRow W4.heap.size (ovA ((mN k : Nat) : Int) (.slice A (tiesL k).length cap) (loadP i) (drawP k j)) := ⟨_, rfl⟩
    have pb : Below W4.heap.size W4 W5 := by rw [hW5]; exact below_setRow (below_alloc _ _) (Nat.le_refl _) _
    have p0 : W5.heap[W4.heap.size]? = some (.cells (ovA ((mN k : Nat) : Int) (.slice A (tiesL k).length cap) (loadP i) (drawP k j)) 173) := by rw [hW5]; exact setRow_heap _ _ _ _ _ _ (heap_alloc_new W4 _)
    have HW5 := Lib.hid hW5
    replace q0 := (pb.block _ (size_of_block q0)).trans q0
    replace q1 := (pb.block _ (size_of_block q1)).trans q1
    replace q2 := (pb.block _ (size_of_block q2)).trans q2
    replace qb := below_then qb pb
    replace hT := hT.later pb
    replace hk := hk.later pb
    clear pb hW5
    go_wp2_with (first | (refine wpList_store_rowTo rfl 173 _ _ rfl rfl W4.heap.size (ovA ((mN k : Nat) : Int) (.slice A (tiesL k).length cap) (loadP i) (drawP k j)) rfl rfl 173 _ (heap_alloc_new W4 _) (by kernel_rfl) rfl (by kernel_rfl) ?_; rw [← HW5.out]) | (refine wpList_load_row rfl 173 _ rfl W4.heap.size rfl 173 (ovA ((mN k : Nat) : Int) (.slice A (tiesL k).length cap) (loadP i) (drawP k j)) (0, 0) _ p0 Tryz.underlying173 rfl (by kernel_rfl) ?_))
    refine (HL.out W5 hT).mono ?_
    rintro e W6 ⟨M, rfl, ⟨hkp, htk, hsz⟩, hF⟩
    replace q0 := (hF.block _ (size_of_block q0)).trans q0
    replace q1 := (hF.block _ (size_of_block q1)).trans q1
    replace q2 := (hF.block _ (size_of_block q2)).trans q2
    replace p0 := (hF.block _ (size_of_block p0)).trans p0
    replace qb := below_then qb hF
    replace hT := hT.later hF
    replace hk := hk.later hF
    clear hF HL HW5
    obtain ⟨tl1, td1, ht1, hc1⟩ := HK1.out M _ hsz hkp htk
    have HP1 := Lib.hid ht1
    have HC1 := Lib.hid hc1
    have HKP := Lib.hid hkp
    have HSZ := Lib.hid hsz
    clear ht1 hc1 htk hkp hsz
    obtain ⟨W7, hW7⟩ : ∃ W7, W7 = (W6.alloc (.cells #[.int .i64 0, .int .i64 0, .int .i64 0, .int .i64 0, .int .i64 0, .int .i64 0, .int .i64 0, .int .i64 0, .int .i64 0, .int .i64 0, .int .i64 0, .int .i64 0, .int .i64 0, .int .i64 0, .int .i64 0, .int .i64 0, .int .i64 0, .int .i64 0, .int .i64 0, .int .i64 0, .int .i64 0, .int .i64 0, .int .i64 0, .int .i64 0, .int .i64 0, .int .i64 0, .int .i64 0, .int .i64 0, .int .i64 0, .int .i64 0, .int .i64 0, .int .i64 0, .int .i64 0, .int .i64 0, .int .i64 0, .int .i64 0, .int .i64 0, .int .i64 0, .int .i64 0, .int .i64 0, .int .i64 0] 124)).setRow W6.heap.size (hgA (halfN (mN k) M)) := ⟨_, rfl⟩
    have pb : Below W6.heap.size W6 W7 := by rw [hW7]; exact below_setRow (below_alloc _ _) (Nat.le_refl _) _
    have p1 : W7.heap[W6.heap.size]? = some (.cells (hgA (halfN (mN k) M)) 124) := by rw [hW7]; exact setRow_heap _ _ _ _ _ _ (heap_alloc_new W6 _)
    have HW7 := Lib.hid hW7
    replace q0 := (pb.block _ (size_of_block q0)).trans q0
    replace q1 := (pb.block _ (size_of_block q1)).trans q1
    replace q2 := (pb.block _ (size_of_block q2)).trans q2
    replace p0 := (pb.block _ (size_of_block p0)).trans p0
    replace qb := below_then qb pb
    replace hT := hT.later pb
    replace hk := hk.later pb
    clear pb hW7
    have hs1 := size_of_block p1
    have hs2 := size_of_block q2
    obtain ⟨W8, hW8⟩ : ∃ W8, W8 = (W7.alloc (.cells #[.int .i64 0, .int .i64 0, .int .i64 0, .int .i64 0, .int .i64 0, .int .i64 0, .int .i64 0, .int .i64 0, .int .i64 0, .int .i64 0, .int .i64 0, .int .i64 0, .int .i64 0, .int .i64 0, .int .i64 0, .int .i64 0, .int .i64 0, .int .i64 0, .int .i64 0, .int .i64 0, .int .i64 0, .int .i64 0, .int .i64 0, .int .i64 0, .int .i64 0, .int .i64 0, .int .i64 0, .int .i64 0, .int .i64 0, .int .i64 0, .int .i64 0, .int .i64 0, .int .i64 0, .int .i64 0, .int .i64 0, .int .i64 0, .int .i64 0, .int .i64 0, .int .i64 0, .int .i64 0, .int .i64 0] 124)).setRow W7.heap.size (hgA (halfN (mN k) M)) := ⟨_, rfl⟩
    have p1a := p1
    have pb : Below W7.heap.size W7 W8 := by rw [hW8]; exact below_setRow (below_alloc _ _) (Nat.le_refl _) _
    have p2 : W8.heap[W7.heap.size]? = some (.cells (hgA (halfN (mN k) M)) 124) := by rw [hW8]; exact setRow_heap _ _ _ _ _ _ (heap_alloc_new W7 _)
    have HW8 := Lib.hid hW8
    replace q0 := (pb.block _ (size_of_block q0)).trans q0
    replace q1 := (pb.block _ (size_of_block q1)).trans q1
    replace q2 := (pb.block _ (size_of_block q2)).trans q2
    replace p0 := (pb.block _ (size_of_block p0)).trans p0
    replace p1 := (pb.block _ (size_of_block p1)).trans p1
    replace qb := below_then qb pb
    replace hT := hT.later pb
    replace hk := hk.later pb
    clear pb hW8
    go_wp2_with (first | (refine wpList_store_rowTo rfl 124 _ _ rfl rfl W6.heap.size (hgA (halfN (mN k) M)) rfl rfl 124 _ (heap_alloc_new W6 _) (by kernel_rfl) (by rw [hgA_size]; kernel_rfl) (by rw [hgA_size]; kernel_rfl) ?_; rw [← HW7.out]) | (refine wpList_load_row rfl 124 _ rfl W6.heap.size rfl 124 (hgA (halfN (mN k) M)) (0, 0) _ p1a Tryz.underlying124 rfl (by rw [hgA_size]; kernel_rfl) ?_) | (refine wpList_store_rowTo rfl 124 _ _ rfl rfl W7.heap.size (hgA (halfN (mN k) M)) rfl rfl 124 _ (heap_alloc_new W7 _) (by kernel_rfl) (by rw [hgA_size]; kernel_rfl) (by rw [hgA_size]; kernel_rfl) ?_; rw [← HW8.out]) | (refine wpList_load_row rfl 173 _ rfl W4.heap.size rfl 173 (ovA ((mN k : Nat) : Int) (.slice A (tiesL k).length cap) (loadP i) (drawP k j)) (0, 0) _ p0 Tryz.underlying173 rfl (by kernel_rfl) ?_))
    clear p1a
    refine (HM.out W8 hT).mono ?_
    rintro e W9 ⟨rfl, hF⟩
    replace q0 := (hF.block _ (size_of_block q0)).trans q0
    replace q1 := (hF.block _ (size_of_block q1)).trans q1
    replace q2 := (hF.block _ (size_of_block q2)).trans q2
    replace p0 := (hF.block _ (size_of_block p0)).trans p0
    replace p1 := (hF.block _ (size_of_block p1)).trans p1
    replace p2 := (hF.block _ (size_of_block p2)).trans p2
    replace qb := below_then qb hF
    replace hT := hT.later hF
    replace hk := hk.later hF
    clear hF HM HW7 HW8
    generalize mostZ (tiesL k) (loadP i) (drawP k j) = mz at HE HKN HKR HMZ hmr ⊢
    generalize leastZ (tiesL k) (loadP i) (drawP k j) = lz at HE HP1 ⊢
    by_cases hp : 0 < mz
    · go_wp2_with (first | (refine wpList_load_row rfl 173 _ rfl W4.heap.size rfl 173 (ovA ((mN k : Nat) : Int) (.slice A (tiesL k).length cap) (loadP i) (drawP k j)) (0, 0) _ p0 Tryz.underlying173 rfl (by kernel_rfl) ?_))
      all_goals (try (exfalso; omega))
      refine (HRC.out W9 mz ⟨by omega, by omega⟩ hT).mono ?_
      rintro e W10 ⟨F2, r, rfl, hres, hF⟩
      obtain ⟨rfl, M2, B2, rfl, hs⟩ : r = true ∧ ∃ M B, F2 = halfN (mN k) M ∧ Settled (tiesL k ++ moreT (loadP i) (drawP k j) mz) (mN k) 0 M B := by
        rcases hres with h | ⟨_, h⟩
        · exact h
        · rcases HMZ.out.2.1 with h1 | h1
          · omega
          · exact absurd h1 h
      obtain ⟨g1, g2⟩ := HKR.out M2 B2 hs
      obtain ⟨tl2, td2, ht2, hc2⟩ := HK1.out M2 _ hs.size g1 g2
      have HP2 := Lib.hid ht2
      have HC2 := Lib.hid hc2
      replace q0 := (hF.block _ (size_of_block q0)).trans q0
      replace q1 := (hF.block _ (size_of_block q1)).trans q1
      replace q2 := (hF.block _ (size_of_block q2)).trans q2
      replace p1 := (hF.block _ (size_of_block p1)).trans p1
      replace p2 := (hF.block _ (size_of_block p2)).trans p2
      replace qb := below_then qb hF
      clear ht2 hc2 g1 g2 hs hres hF hT hk p0
      obtain ⟨W11, hW11⟩ : ∃ W11, W11 = W10.setRow W7.heap.size (hgA (halfN (mN k) M2)) := ⟨_, rfl⟩
      have pb : Below W7.heap.size W10 W11 := by rw [hW11]; exact below_setRow (Below.refl _ _) (Nat.le_refl _) _
      have p3 : W11.heap[W7.heap.size]? = some (.cells (hgA (halfN (mN k) M2)) 124) := by rw [hW11]; exact setRow_heap _ _ _ _ _ _ p2
      replace q0 := (pb.block _ (by omega)).trans q0
      replace q1 := (pb.block _ (by omega)).trans q1
      replace q2 := (pb.block _ (by omega)).trans q2
      replace p1 := (pb.block _ (by omega)).trans p1
      replace qb : Below w.heap.size w W11 := by rw [hW11]; exact below_setRow qb (by omega) _
      have hk := (HKB.out.below qb).kiln qb.size
      have HW11 := Lib.hid hW11
      clear pb hW11
      go_wp2_with (first | (refine wpList_store_rowTo rfl 124 _ _ rfl rfl W7.heap.size (hgA (halfN (mN k) M2)) rfl rfl 124 _ p2 (by kernel_rfl) (by rw [hgA_size]; kernel_rfl) (by rw [hgA_size]; kernel_rfl) ?_; rw [← HW11.out]))
      replace p2 := p3
      clear p3 HW11
      refine wp_region_looseM [] [0, 1, 3, 4] (.one 2 (.one 5 .done)) [] [] [6, 7, 8] [] [] (by kernel_rfl) (by kernel_rfl) (by intro c a d v w h; cases d <;> exact h) (by intro c a d v w h; cases d <;> exact h) rfl (fun r i h => by simp at h) ?_
      simp only [pick, List.filterMap_cons, List.filterMap_nil, List.getElem?_toArray, List.getElem?_cons_succ, List.getElem?_cons_zero]
      intro u1 hu1
      replace q2 := (hu1.block _ (size_of_block q2)).trans q2
      replace p2 := (hu1.block _ (size_of_block p2)).trans p2
      replace q1 := (hu1.block _ (size_of_block q1)).trans q1
      replace q0 := (hu1.block _ (size_of_block q0)).trans q0
      replace p1 := (hu1.block _ (size_of_block p1)).trans p1
      replace hk := hk.later hu1
      replace qb := below_then qb hu1
      have cq00 := Joins.cell_of_block q0 0
      have cq01 := Joins.cell_of_block q0 1
      have cq02 := Joins.cell_of_block q0 2
      have cq03 := Joins.cell_of_block q0 3
      have cq04 := Joins.cell_of_block q0 4
      have zq0 := size_of_block q0
      have hcg : ∀ (g : Gr u1) b o, b < u1.heap.size → g.val.cell? ⟨b, o, none⟩ = u1.cell? ⟨b, o, none⟩ := fun g b o h => (bcell g.b).1 b o h
      iterate 4 (first | (refine wpRel_load_row rfl 124 _ rfl W6.heap.size rfl _ (hgA (halfN (mN k) M)) _ _ p1 Tryz.underlying124 rfl (by rw [hgA_size]; kernel_rfl) ?_; try simp only [Act.put, List.setIfInBounds_toArray, List.set_cons_zero, List.set_cons_succ]) | (refine wpRel_load_row rfl 124 _ rfl W7.heap.size rfl _ (hgA (halfN (mN k) M2)) _ _ p2 Tryz.underlying124 rfl (by rw [hgA_size]; kernel_rfl) ?_; try simp only [Act.put, List.setIfInBounds_toArray, List.set_cons_zero, List.set_cons_succ]) | (refine wpRel_step (fun K hK => ?_); go_simp; refine hK _ ?_; clear hK K))
      refine wpRel_nil fun V1_0 hb1 => ?_
      clear hcg cq00 cq01 cq02 cq03 cq04 zq0
      replace p1 := (hb1.block _ (size_of_block p1)).trans p1
      replace p2 := (hb1.block _ (size_of_block p2)).trans p2
      replace q0 := (hb1.block _ (size_of_block q0)).trans q0
      replace q1 := (hb1.block _ (size_of_block q1)).trans q1
      replace q2 := (hb1.block _ (size_of_block q2)).trans q2
      replace hk := hk.later hb1
      replace qb := below_then qb hb1
      clear hb1 hu1
      refine wpTr_step rfl rfl fun K hK => ?_
      go_simp
      refine (HC1.out V1_0 hk).mono ?_
      rintro e X ⟨u1, rfl, hO1, hx⟩
      replace hO1 := hO1.more qb.size
      refine hK _ _ hx fun V1_1 hu => ?_
      clear hK K
      have hxu := below_then hx hu
      replace hO1 := hO1.later hu
      replace p1 := (hxu.block _ (size_of_block p1)).trans p1
      replace p2 := (hxu.block _ (size_of_block p2)).trans p2
      replace q0 := (hxu.block _ (size_of_block q0)).trans q0
      replace q1 := (hxu.block _ (size_of_block q1)).trans q1
      replace q2 := (hxu.block _ (size_of_block q2)).trans q2
      replace hk := hk.later hxu
      replace qb := below_then qb hxu
      clear hx hu hxu
      refine wpTr_step rfl rfl fun K hK => ?_
      go_simp
      refine (HC2.out V1_1 hk).mono ?_
      rintro e X ⟨u2, rfl, hO2, hx⟩
      replace hO2 := hO2.more qb.size
      refine hK _ _ hx fun V1_2 hu => ?_
      clear hK K
      have hxu := below_then hx hu
      replace hO1 := hO1.later hxu
      replace hO2 := hO2.later hu
      replace p1 := (hxu.block _ (size_of_block p1)).trans p1
      replace p2 := (hxu.block _ (size_of_block p2)).trans p2
      replace q0 := (hxu.block _ (size_of_block q0)).trans q0
      replace q1 := (hxu.block _ (size_of_block q1)).trans q1
      replace q2 := (hxu.block _ (size_of_block q2)).trans q2
      replace hk := hk.later hxu
      replace qb := below_then qb hxu
      clear hx hu hxu
      show wpPure _ _ _ _
      intro ks hks _ _
      obtain rfl : ks = [] := List.length_eq_zero_iff.1 hks
      clear hks
      show wpList _ _ _ _ _ _
      simp only [deco]
      obtain ⟨Aa, ca, Ab, cb, rfl⟩ := hO1.form
      obtain ⟨Ac, cc, Ad, cd, rfl⟩ := hO2.form
      clear q0 p1 p2 hk
      have k1 : ((((V1_2.setCell ⟨w.heap.size + 1, 0, none⟩ (.slice Aa tl1.length ca)).setCell ⟨w.heap.size + 1, 1, none⟩ (.slice Ab td1.length cb)).setCell ⟨w.heap.size + 1 + 1, 0, none⟩ (.slice Ac tl2.length cc)).setCell ⟨w.heap.size + 1 + 1, 1, none⟩ (.slice Ad td2.length cd)).heap[w.heap.size + 1]? = some (.cells #[.slice Aa tl1.length ca, .slice Ab td1.length cb] 29) := ((put_other (i := 1) (.slice Ad td2.length cd) (show w.heap.size + 1 ≠ w.heap.size + 1 + 1 by omega)).trans (put_other (i := 0) (.slice Ac tl2.length cc) (show w.heap.size + 1 ≠ w.heap.size + 1 + 1 by omega))).trans (Joins.block_setCell (i := 1) (Joins.block_setCell (i := 0) q1 (.slice Aa tl1.length ca)) (.slice Ab td1.length cb))
      have k2 : ((((V1_2.setCell ⟨w.heap.size + 1, 0, none⟩ (.slice Aa tl1.length ca)).setCell ⟨w.heap.size + 1, 1, none⟩ (.slice Ab td1.length cb)).setCell ⟨w.heap.size + 1 + 1, 0, none⟩ (.slice Ac tl2.length cc)).setCell ⟨w.heap.size + 1 + 1, 1, none⟩ (.slice Ad td2.length cd)).heap[w.heap.size + 1 + 1]? = some (.cells #[.slice Ac tl2.length cc, .slice Ad td2.length cd] 29) := Joins.block_setCell (i := 1) (Joins.block_setCell (i := 0) (((put_other (i := 1) (.slice Ab td1.length cb) (show w.heap.size + 1 + 1 ≠ w.heap.size + 1 by omega)).trans (put_other (i := 0) (.slice Aa tl1.length ca) (show w.heap.size + 1 + 1 ≠ w.heap.size + 1 by omega))).trans q2) (.slice Ac tl2.length cc)) (.slice Ad td2.length cd)
      have H0 := Lib.hid (Joins.cell_of_block k1 0)
      have H1 := Lib.hid (Joins.cell_of_block k1 1)
      have H2 := Lib.hid (Joins.cell_of_block k2 0)
      have H3 := Lib.hid (Joins.cell_of_block k2 1)
      have HBF := Lib.hid (below_set (v := .slice Ad td2.length cd) (i := 1) (below_set (v := .slice Ac tl2.length cc) (i := 0) (below_set (v := .slice Ab td1.length cb) (i := 1) (below_set (v := .slice Aa tl1.length ca) (i := 0) qb (show w.heap.size ≤ w.heap.size + 1 by omega)) (show w.heap.size ≤ w.heap.size + 1 by omega)) (show w.heap.size ≤ w.heap.size + 1 + 1 by omega)) (show w.heap.size ≤ w.heap.size + 1 + 1 by omega))
      have hq1a := Joins.block_setCell (i := 0) q1 (.slice Aa tl1.length ca)
      have hq2a := ((put_other (i := 1) (.slice Ab td1.length cb) (show w.heap.size + 1 + 1 ≠ w.heap.size + 1 by omega)).trans (put_other (i := 0) (.slice Aa tl1.length ca) (show w.heap.size + 1 + 1 ≠ w.heap.size + 1 by omega))).trans q2
      have hq2b := Joins.block_setCell (i := 0) hq2a (.slice Ac tl2.length cc)
      have HT1 := Lib.hid ((((hO1.setCell q1 (by decide) 0 (.slice Aa tl1.length ca)).setCell hq1a (by decide) 1 (.slice Ab td1.length cb)).setCell hq2a (by decide) 0 (.slice Ac tl2.length cc)).setCell hq2b (by decide) 1 (.slice Ad td2.length cd))
      have HT2 := Lib.hid ((((hO2.setCell q1 (by decide) 0 (.slice Aa tl1.length ca)).setCell hq1a (by decide) 1 (.slice Ab td1.length cb)).setCell hq2a (by decide) 0 (.slice Ac tl2.length cc)).setCell hq2b (by decide) 1 (.slice Ad td2.length cd))
      clear hq1a hq2a hq2b hO1 hO2
      clear k1 k2
      have e0 := Joins.cell_of_block q1 0
      have e1 := Joins.cell_of_block q1 1
      have e2 := Joins.cell_of_block q2 0
      have e3 := Joins.cell_of_block q2 1
      have f0 := Joins.unfrozen_of_block q1 0
      have f1 := Joins.unfrozen_of_block q1 1
      have f2 := Joins.unfrozen_of_block q2 0
      have f3 := Joins.unfrozen_of_block q2 1
      have z1 := size_of_block q1
      have z2 := size_of_block q2
      clear q1 q2
      go_wp2_with fail
      refine bodyPost_ret (v := .tuple #[.agg #[.slice Aa tl1.length ca, .slice Ab td1.length cb], .agg #[.slice Ac tl2.length cc, .slice Ad td2.length cd], .int .i64 (0)]) ?_ rfl ⟨_, tl1, td1, _, tl2, td2, by rw [HE.out], ⟨HT1.out, HT2.out⟩, ⟨fun _ => by rw [HE.out, HI.out, HJ.out]; exact ⟨HP1.out, HP2.out⟩, fun h => absurd (by rw [HE.out]) h⟩, HBF.out⟩
      simp [results, Tryz.results47, go_sem, H0.out, H1.out, H2.out, H3.out]
    · obtain ⟨tl2, td2, ht2, hc2⟩ := HK1.out M _ HSZ.out HKP.out (HKN.out M HKP.out (by omega))
      have HP2 := Lib.hid ht2
      have HC2 := Lib.hid hc2
      clear ht2 hc2
      go_wp2_with fail
      all_goals (try (exfalso; omega))
      refine wp_region_looseM [] [0, 1, 3, 4] (.one 2 (.one 5 .done)) [] [] [6, 7, 8] [] [] (by kernel_rfl) (by kernel_rfl) (by intro c a d v w h; cases d <;> exact h) (by intro c a d v w h; cases d <;> exact h) rfl (fun r i h => by simp at h) ?_
      simp only [pick, List.filterMap_cons, List.filterMap_nil, List.getElem?_toArray, List.getElem?_cons_succ, List.getElem?_cons_zero]
      intro u1 hu1
      replace q2 := (hu1.block _ (size_of_block q2)).trans q2
      replace p2 := (hu1.block _ (size_of_block p2)).trans p2
      replace q1 := (hu1.block _ (size_of_block q1)).trans q1
      replace q0 := (hu1.block _ (size_of_block q0)).trans q0
      replace p1 := (hu1.block _ (size_of_block p1)).trans p1
      replace hk := hk.later hu1
      replace qb := below_then qb hu1
      have cq00 := Joins.cell_of_block q0 0
      have cq01 := Joins.cell_of_block q0 1
      have cq02 := Joins.cell_of_block q0 2
      have cq03 := Joins.cell_of_block q0 3
      have cq04 := Joins.cell_of_block q0 4
      have zq0 := size_of_block q0
      have hcg : ∀ (g : Gr u1) b o, b < u1.heap.size → g.val.cell? ⟨b, o, none⟩ = u1.cell? ⟨b, o, none⟩ := fun g b o h => (bcell g.b).1 b o h
      iterate 4 (first | (refine wpRel_load_row rfl 124 _ rfl W6.heap.size rfl _ (hgA (halfN (mN k) M)) _ _ p1 Tryz.underlying124 rfl (by rw [hgA_size]; kernel_rfl) ?_; try simp only [Act.put, List.setIfInBounds_toArray, List.set_cons_zero, List.set_cons_succ]) | (refine wpRel_load_row rfl 124 _ rfl W7.heap.size rfl _ (hgA (halfN (mN k) M)) _ _ p2 Tryz.underlying124 rfl (by rw [hgA_size]; kernel_rfl) ?_; try simp only [Act.put, List.setIfInBounds_toArray, List.set_cons_zero, List.set_cons_succ]) | (refine wpRel_step (fun K hK => ?_); go_simp; refine hK _ ?_; clear hK K))
      refine wpRel_nil fun V1_0 hb1 => ?_
      clear hcg cq00 cq01 cq02 cq03 cq04 zq0
      replace p1 := (hb1.block _ (size_of_block p1)).trans p1
      replace p2 := (hb1.block _ (size_of_block p2)).trans p2
      replace q0 := (hb1.block _ (size_of_block q0)).trans q0
      replace q1 := (hb1.block _ (size_of_block q1)).trans q1
      replace q2 := (hb1.block _ (size_of_block q2)).trans q2
      replace hk := hk.later hb1
      replace qb := below_then qb hb1
      clear hb1 hu1
      refine wpTr_step rfl rfl fun K hK => ?_
      go_simp
      refine (HC1.out V1_0 hk).mono ?_
      rintro e X ⟨u1, rfl, hO1, hx⟩
      replace hO1 := hO1.more qb.size
      refine hK _ _ hx fun V1_1 hu => ?_
      clear hK K
      have hxu := below_then hx hu
      replace hO1 := hO1.later hu
      replace p1 := (hxu.block _ (size_of_block p1)).trans p1
      replace p2 := (hxu.block _ (size_of_block p2)).trans p2
      replace q0 := (hxu.block _ (size_of_block q0)).trans q0
      replace q1 := (hxu.block _ (size_of_block q1)).trans q1
      replace q2 := (hxu.block _ (size_of_block q2)).trans q2
      replace hk := hk.later hxu
      replace qb := below_then qb hxu
      clear hx hu hxu
      refine wpTr_step rfl rfl fun K hK => ?_
      go_simp
      refine (HC2.out V1_1 hk).mono ?_
      rintro e X ⟨u2, rfl, hO2, hx⟩
      replace hO2 := hO2.more qb.size
      refine hK _ _ hx fun V1_2 hu => ?_
      clear hK K
      have hxu := below_then hx hu
      replace hO1 := hO1.later hxu
      replace hO2 := hO2.later hu
      replace p1 := (hxu.block _ (size_of_block p1)).trans p1
      replace p2 := (hxu.block _ (size_of_block p2)).trans p2
      replace q0 := (hxu.block _ (size_of_block q0)).trans q0
      replace q1 := (hxu.block _ (size_of_block q1)).trans q1
      replace q2 := (hxu.block _ (size_of_block q2)).trans q2
      replace hk := hk.later hxu
      replace qb := below_then qb hxu
      clear hx hu hxu
      show wpPure _ _ _ _
      intro ks hks _ _
      obtain rfl : ks = [] := List.length_eq_zero_iff.1 hks
      clear hks
      show wpList _ _ _ _ _ _
      simp only [deco]
      obtain ⟨Aa, ca, Ab, cb, rfl⟩ := hO1.form
      obtain ⟨Ac, cc, Ad, cd, rfl⟩ := hO2.form
      clear q0 p1 p2 hk
      have k1 : ((((V1_2.setCell ⟨w.heap.size + 1, 0, none⟩ (.slice Aa tl1.length ca)).setCell ⟨w.heap.size + 1, 1, none⟩ (.slice Ab td1.length cb)).setCell ⟨w.heap.size + 1 + 1, 0, none⟩ (.slice Ac tl2.length cc)).setCell ⟨w.heap.size + 1 + 1, 1, none⟩ (.slice Ad td2.length cd)).heap[w.heap.size + 1]? = some (.cells #[.slice Aa tl1.length ca, .slice Ab td1.length cb] 29) := ((put_other (i := 1) (.slice Ad td2.length cd) (show w.heap.size + 1 ≠ w.heap.size + 1 + 1 by omega)).trans (put_other (i := 0) (.slice Ac tl2.length cc) (show w.heap.size + 1 ≠ w.heap.size + 1 + 1 by omega))).trans (Joins.block_setCell (i := 1) (Joins.block_setCell (i := 0) q1 (.slice Aa tl1.length ca)) (.slice Ab td1.length cb))
      have k2 : ((((V1_2.setCell ⟨w.heap.size + 1, 0, none⟩ (.slice Aa tl1.length ca)).setCell ⟨w.heap.size + 1, 1, none⟩ (.slice Ab td1.length cb)).setCell ⟨w.heap.size + 1 + 1, 0, none⟩ (.slice Ac tl2.length cc)).setCell ⟨w.heap.size + 1 + 1, 1, none⟩ (.slice Ad td2.length cd)).heap[w.heap.size + 1 + 1]? = some (.cells #[.slice Ac tl2.length cc, .slice Ad td2.length cd] 29) := Joins.block_setCell (i := 1) (Joins.block_setCell (i := 0) (((put_other (i := 1) (.slice Ab td1.length cb) (show w.heap.size + 1 + 1 ≠ w.heap.size + 1 by omega)).trans (put_other (i := 0) (.slice Aa tl1.length ca) (show w.heap.size + 1 + 1 ≠ w.heap.size + 1 by omega))).trans q2) (.slice Ac tl2.length cc)) (.slice Ad td2.length cd)
      have H0 := Lib.hid (Joins.cell_of_block k1 0)
      have H1 := Lib.hid (Joins.cell_of_block k1 1)
      have H2 := Lib.hid (Joins.cell_of_block k2 0)
      have H3 := Lib.hid (Joins.cell_of_block k2 1)
      have HBF := Lib.hid (below_set (v := .slice Ad td2.length cd) (i := 1) (below_set (v := .slice Ac tl2.length cc) (i := 0) (below_set (v := .slice Ab td1.length cb) (i := 1) (below_set (v := .slice Aa tl1.length ca) (i := 0) qb (show w.heap.size ≤ w.heap.size + 1 by omega)) (show w.heap.size ≤ w.heap.size + 1 by omega)) (show w.heap.size ≤ w.heap.size + 1 + 1 by omega)) (show w.heap.size ≤ w.heap.size + 1 + 1 by omega))
      have hq1a := Joins.block_setCell (i := 0) q1 (.slice Aa tl1.length ca)
      have hq2a := ((put_other (i := 1) (.slice Ab td1.length cb) (show w.heap.size + 1 + 1 ≠ w.heap.size + 1 by omega)).trans (put_other (i := 0) (.slice Aa tl1.length ca) (show w.heap.size + 1 + 1 ≠ w.heap.size + 1 by omega))).trans q2
      have hq2b := Joins.block_setCell (i := 0) hq2a (.slice Ac tl2.length cc)
      have HT1 := Lib.hid ((((hO1.setCell q1 (by decide) 0 (.slice Aa tl1.length ca)).setCell hq1a (by decide) 1 (.slice Ab td1.length cb)).setCell hq2a (by decide) 0 (.slice Ac tl2.length cc)).setCell hq2b (by decide) 1 (.slice Ad td2.length cd))
      have HT2 := Lib.hid ((((hO2.setCell q1 (by decide) 0 (.slice Aa tl1.length ca)).setCell hq1a (by decide) 1 (.slice Ab td1.length cb)).setCell hq2a (by decide) 0 (.slice Ac tl2.length cc)).setCell hq2b (by decide) 1 (.slice Ad td2.length cd))
      clear hq1a hq2a hq2b hO1 hO2
      clear k1 k2
      have e0 := Joins.cell_of_block q1 0
      have e1 := Joins.cell_of_block q1 1
      have e2 := Joins.cell_of_block q2 0
      have e3 := Joins.cell_of_block q2 1
      have f0 := Joins.unfrozen_of_block q1 0
      have f1 := Joins.unfrozen_of_block q1 1
      have f2 := Joins.unfrozen_of_block q2 0
      have f3 := Joins.unfrozen_of_block q2 1
      have z1 := size_of_block q1
      have z2 := size_of_block q2
      clear q1 q2
      go_wp2_with fail
      refine bodyPost_ret (v := .tuple #[.agg #[.slice Aa tl1.length ca, .slice Ab td1.length cb], .agg #[.slice Ac tl2.length cc, .slice Ad td2.length cd], .int .i64 (0)]) ?_ rfl ⟨_, tl1, td1, _, tl2, td2, by rw [HE.out], ⟨HT1.out, HT2.out⟩, ⟨fun _ => by rw [HE.out, HI.out, HJ.out]; exact ⟨HP1.out, HP2.out⟩, fun h => absurd (by rw [HE.out]) h⟩, HBF.out⟩
      simp [results, Tryz.results47, go_sem, H0.out, H1.out, H2.out, H3.out]
  · obtain rfl := ho2 hE0
    obtain ⟨E, hE⟩ : ∃ E, E = (tookE k d ld).2 := ⟨_, rfl⟩
    have HE2 := Lib.hid hE.symm
    rw [← hE] at hE0 ⊢
    have d0 : (E != 0) = true := by simpa using hE0
    have HNE := Lib.hid hE0
    clear ho1 ho2 hE0 hE hk q0
    obtain ⟨W5, hW5⟩ : ∃ W5, W5 = (W4.alloc (.cells #[.int .i64 0, .slice none 0 0, .int .i64 0, .int .i64 0, .int .i64 0, .int .i64 0, .int .i64 0, .int .i64 0, .int .i64 0, .int .i64 0] 173)).setRow W4.heap.size (#[.int .i64 0, .slice none 0 0, .int .i64 0, .int .i64 0, .int .i64 0, .int .i64 0, .int .i64 0, .int .i64 0, .int .i64 0, .int .i64 0]) := ⟨_, rfl⟩
    have pb : Below W4.heap.size W4 W5 := by rw [hW5]; exact below_setRow (below_alloc _ _) (Nat.le_refl _) _
    have p0 : W5.heap[W4.heap.size]? = some (.cells (#[.int .i64 0, .slice none 0 0, .int .i64 0, .int .i64 0, .int .i64 0, .int .i64 0, .int .i64 0, .int .i64 0, .int .i64 0, .int .i64 0]) 173) := by rw [hW5]; exact setRow_heap _ _ _ _ _ _ (heap_alloc_new W4 _)
    have HW5 := Lib.hid hW5
    replace q1 := (pb.block _ (size_of_block q1)).trans q1
    replace q2 := (pb.block _ (size_of_block q2)).trans q2
    replace qb := below_then qb pb
    clear pb hW5
    have k1 : ((((W5.setCell ⟨w.heap.size + 1, 0, none⟩ (.slice none 0 0)).setCell ⟨w.heap.size + 1, 1, none⟩ (.slice none 0 0)).setCell ⟨w.heap.size + 1 + 1, 0, none⟩ (.slice none 0 0)).setCell ⟨w.heap.size + 1 + 1, 1, none⟩ (.slice none 0 0)).heap[w.heap.size + 1]? = some (.cells #[.slice none 0 0, .slice none 0 0] 29) := ((put_other (i := 1) (.slice none 0 0) (show w.heap.size + 1 ≠ w.heap.size + 1 + 1 by omega)).trans (put_other (i := 0) (.slice none 0 0) (show w.heap.size + 1 ≠ w.heap.size + 1 + 1 by omega))).trans (Joins.block_setCell (i := 1) (Joins.block_setCell (i := 0) q1 (.slice none 0 0)) (.slice none 0 0))
    have k2 : ((((W5.setCell ⟨w.heap.size + 1, 0, none⟩ (.slice none 0 0)).setCell ⟨w.heap.size + 1, 1, none⟩ (.slice none 0 0)).setCell ⟨w.heap.size + 1 + 1, 0, none⟩ (.slice none 0 0)).setCell ⟨w.heap.size + 1 + 1, 1, none⟩ (.slice none 0 0)).heap[w.heap.size + 1 + 1]? = some (.cells #[.slice none 0 0, .slice none 0 0] 29) := Joins.block_setCell (i := 1) (Joins.block_setCell (i := 0) (((put_other (i := 1) (.slice none 0 0) (show w.heap.size + 1 + 1 ≠ w.heap.size + 1 by omega)).trans (put_other (i := 0) (.slice none 0 0) (show w.heap.size + 1 + 1 ≠ w.heap.size + 1 by omega))).trans q2) (.slice none 0 0)) (.slice none 0 0)
    have H0 := Lib.hid (Joins.cell_of_block k1 0)
    have H1 := Lib.hid (Joins.cell_of_block k1 1)
    have H2 := Lib.hid (Joins.cell_of_block k2 0)
    have H3 := Lib.hid (Joins.cell_of_block k2 1)
    have HBF := Lib.hid (below_set (v := .slice none 0 0) (i := 1) (below_set (v := .slice none 0 0) (i := 0) (below_set (v := .slice none 0 0) (i := 1) (below_set (v := .slice none 0 0) (i := 0) qb (show w.heap.size ≤ w.heap.size + 1 by omega)) (show w.heap.size ≤ w.heap.size + 1 by omega)) (show w.heap.size ≤ w.heap.size + 1 + 1 by omega)) (show w.heap.size ≤ w.heap.size + 1 + 1 by omega))
    clear k1 k2
    have e0 := Joins.cell_of_block q1 0
    have e1 := Joins.cell_of_block q1 1
    have e2 := Joins.cell_of_block q2 0
    have e3 := Joins.cell_of_block q2 1
    have f0 := Joins.unfrozen_of_block q1 0
    have f1 := Joins.unfrozen_of_block q1 1
    have f2 := Joins.unfrozen_of_block q2 0
    have f3 := Joins.unfrozen_of_block q2 1
    have z1 := size_of_block q1
    have z2 := size_of_block q2
    clear q1 q2
    go_wp2_with (first | (refine wpList_store_rowTo rfl 173 _ _ rfl rfl W4.heap.size (#[.int .i64 0, .slice none 0 0, .int .i64 0, .int .i64 0, .int .i64 0, .int .i64 0, .int .i64 0, .int .i64 0, .int .i64 0, .int .i64 0]) rfl rfl 173 _ (heap_alloc_new W4 _) (by kernel_rfl) rfl (by kernel_rfl) ?_; rw [← HW5.out]))
    refine bodyPost_ret (v := .tuple #[.agg #[.slice none 0 0, .slice none 0 0], .agg #[.slice none 0 0, .slice none 0 0], .int .i64 (E)]) ?_ rfl ⟨_, [], [], _, [], [], by rw [HE2.out], ⟨OwnTruth.nil_ _ _, OwnTruth.nil_ _ _⟩, ⟨fun h => absurd (HE2.out ▸ h) HNE.out, fun _ => ⟨rfl, rfl, rfl, rfl⟩⟩, HBF.out⟩
    simp [results, Tryz.results47, go_sem, H0.out, H1.out, H2.out, H3.out]
end Go.Proofs.YtpgepfbdjefmdaaGreat
