/- ShaftPairs: how long the lists are (written by tools/genspairsl.py). -/
import Derived.Test.YtnedcclmfokdnaaGreatJ27
import Derived.Test.YtnedcclmfokdnaaGreatJ25
import Derived.Test.YtnedcclmfokdnaaGreatZSSpecE
import Derived.Test.YtnedcclmfokdnaaGreatZSRefSh
import Derived.Test.YtnedcclmfokdnaaGreatZSRefI
import Derived.Test.YtnedcclmfokdnaaGreatZSOverE
import Derived.Test.YtnedcclmfokdnaaGreatZSMetE
namespace Go.Proofs.YtnedcclmfokdnaaGreat
open Go Go.RowKit Go.Shelf
attribute [local go_sem] Oper.semAt_some Rel RelAt RelUpon

theorem source_len (k : Kl) (d : Int) : (sourceS k d).length ≤ k.ls.length ∧ (sourceM k d).length ≤ k.ls.length := by
  unfold sourceS sourceM
  constructor <;> split
  · exact sureL_len _ _ _ _ _
  · simp
  · exact someL_len _ _ _ _ _
  · simp
theorem sink_len (k : Kl) (d : Int) : (sinkS k d).length ≤ k.ds.length ∧ (sinkM k d).length ≤ k.ds.length := by
  unfold sinkS sinkM
  constructor <;> split
  · exact sureL_len _ _ _ _ _
  · simp
  · exact someL_len _ _ _ _ _
  · simp
end Go.Proofs.YtnedcclmfokdnaaGreat

/- The reference's Sources, Sinks (written by tools/gensrefso.py). -/
namespace Go.Proofs.YtnedcclmfokdnaaGreat
open Go Go.RowKit Go.Shelf
attribute [local go_sem] Oper.semAt_some Rel RelAt RelUpon

theorem one_cell {W : World} {b : Nat} {v : Value} {t : TypeId} (yn : W.heap[b]? = some (.cells #[v] t)) : ∀ j u, [v][j]? = some u → W.cell? ((⟨b, 0, none⟩ : Addr).add j) = some u := fun j u hj => by
  have h9 := Joins.cell_of_block yn j
  rw [← Array.getElem?_toList, hj] at h9
  by_cases h0 : j = 0
  · subst h0; simpa [Addr.add] using h9
  · simpa [Addr.add, h0] using h9
theorem app_apart2 {W w2 : World} {B n2 : Nat} {e : TypeId} {u1 u2 v' : Value} {xs2 : List Value} (hO2 : W.ownsRow B e 1 u2 n2 xs2) (hD : Apart u1 u2) (hg : W.grownBy w2 u1.ownBlock)
    (hat : v'.ownBlock = u1.ownBlock ∨ v'.ownBlock = some W.heap.size) : w2.ownsRow B e 1 u2 n2 xs2 ∧ Apart v' u2 := by
  refine ⟨hO2.kept hg ?_, fun g h1 h2 => ?_⟩
  · cases h : u1.ownBlock with
    | none => cases h3 : u2.ownBlock with
      | none => exact .inl rfl
      | some x => exact .inr (by simp)
    | some x => exact .inr (hD x h)
  · rcases hat with h | h
    · exact hD g (h ▸ h1) h2
    · have := (hO2.lt g h2).2
      rw [h1, Option.some.injEq] at h
      omega
set_option maxRecDepth 100000 in
set_option maxHeartbeats 4000000 in
theorem rSources_bad (k : Kl) (v : Value) (id : Int) (w : World) (hk : Kiln w v k) (hc : checkI k ≠ 0) : Calls Tryz.prog 50 #[v, .int .i64 id] w fun e w' => ∃ u1 u2, e = .returned (.agg #[u1, u2, .int .i64 (sourceE k id)]) ∧ (w'.ownsRow w.heap.size 3 1 u1 (sourceS k id).length ((sourceS k id).map (Value.int .i64)) ∧ w'.ownsRow w.heap.size 3 1 u2 (sourceM k id).length ((sourceM k id).map (Value.int .i64))) ∧ Below w.heap.size w w' := by
  have HEE := Lib.hid (show sourceE k id = checkI k by unfold sourceE pairE; rw [if_pos hc, if_pos hc])
  have HSS := Lib.hid (show sourceS k id = [] ∧ sourceM k id = [] by unfold sourceS sourceM; rw [HEE.out, if_neg hc, if_neg hc]; exact ⟨rfl, rfl⟩)
  have d0 : (checkI k != 0) = true := by simpa using hc
  clear hc
  obtain ⟨A1, c1, A2, c2, A3, c3, rfl⟩ := kilnForm hk
  have HK := Lib.hid hk
  clear hk
  go_enter Tryz.func50, Tryz.ntmps50
  obtain ⟨bk, br, -, HB⟩ := two_new' w (.cells #[.int .i64 k.room, .int .i64 k.per, .slice A1 k.ls.length c1, .slice A2 k.ds.length c2, .slice A3 k.ws.length c3] 26) (.cells #[.slice none 0 0, .slice none 0 0, .int .i64 0] 79)
  have cbk0 := Joins.cell_of_block bk 0
  have cbk1 := Joins.cell_of_block bk 1
  have cbk2 := Joins.cell_of_block bk 2
  have cbk3 := Joins.cell_of_block bk 3
  have cbk4 := Joins.cell_of_block bk 4
  have zbk := size_of_block bk
  go_wp2_with fail
  generalize ((w.alloc (.cells #[.int .i64 k.room, .int .i64 k.per, .slice A1 k.ls.length c1, .slice A2 k.ds.length c2, .slice A3 k.ws.length c3] 26)).alloc (.cells #[.slice none 0 0, .slice none 0 0, .int .i64 0] 79)) = w1 at bk br HB cbk0 cbk1 cbk2 cbk3 cbk4 zbk ⊢
  have hB := HB
  clear HB
  refine (rcheck_c k _ w1 (HK.out.later hB)).mono ?_
  rintro e w2 ⟨rfl, hF⟩
  clear cbk0 cbk1 cbk2 cbk3 cbk4 zbk
  replace bk := (hF.block _ (size_of_block bk)).trans bk
  replace br := (hF.block _ (size_of_block br)).trans br
  replace hB := below_then hB hF
  clear hF
  have HPP := Lib.hid (fun j : Nat => cell_setRow_same w2 (w.heap.size + 1) j _ #[.slice none 0 0, .slice none 0 0, .int .i64 (checkI k)] _ _ br)
  have HBF := Lib.hid (below_setRow hB (show w.heap.size ≤ w.heap.size + 1 by omega) #[.slice none 0 0, .slice none 0 0, .int .i64 (checkI k)])
  go_wp2_with (first | (refine wpList_store_rowTo rfl 79 _ _ rfl rfl (w.heap.size + 1) #[.slice none 0 0, .slice none 0 0, .int .i64 (checkI k)] rfl rfl 79 _ br (by kernel_rfl) rfl (by kernel_rfl) ?_))
  all_goals (try (exfalso; omega))
  refine bodyPost_ret (v := .agg #[.slice none 0 0, .slice none 0 0, .int .i64 (checkI k)]) ?_ rfl ⟨_, _, by rw [HEE.out], ⟨by rw [HSS.out.1]; exact World.ownsRow_nil _ _ _ _, by rw [HSS.out.2]; exact World.ownsRow_nil _ _ _ _⟩, HBF.out⟩
  simp [results, Tryz.results50, go_sem, HPP.out]
set_option maxRecDepth 100000 in
set_option maxHeartbeats 4000000 in
theorem rSources_none (k : Kl) (v : Value) (id : Int) (w : World) (hk : Kiln w v k) (hc : checkI k = 0) (h1 : place k.ds id < 0) : Calls Tryz.prog 50 #[v, .int .i64 id] w fun e w' => ∃ u1 u2, e = .returned (.agg #[u1, u2, .int .i64 (sourceE k id)]) ∧ (w'.ownsRow w.heap.size 3 1 u1 (sourceS k id).length ((sourceS k id).map (Value.int .i64)) ∧ w'.ownsRow w.heap.size 3 1 u2 (sourceM k id).length ((sourceM k id).map (Value.int .i64))) ∧ Below w.heap.size w w' := by
  have HEE := Lib.hid (show sourceE k id = 5 by rw [source_is hc, if_pos h1])
  have HSS := Lib.hid (show sourceS k id = [] ∧ sourceM k id = [] by unfold sourceS sourceM; rw [HEE.out, if_neg (by omega), if_neg (by omega)]; exact ⟨rfl, rfl⟩)
  have yd := fun v W h => draw_c k v id W h
  obtain ⟨pd, hpd⟩ : ∃ x, x = place k.ds id := ⟨_, rfl⟩
  rw [← hpd] at yd
  have YD := Lib.hid yd
  rw [← hpd] at h1
  clear yd hpd
  obtain ⟨A1, c1, A2, c2, A3, c3, rfl⟩ := kilnForm hk
  have HK := Lib.hid hk
  clear hk
  go_enter Tryz.func50, Tryz.ntmps50
  obtain ⟨bk, br, -, HB⟩ := two_new' w (.cells #[.int .i64 k.room, .int .i64 k.per, .slice A1 k.ls.length c1, .slice A2 k.ds.length c2, .slice A3 k.ws.length c3] 26) (.cells #[.slice none 0 0, .slice none 0 0, .int .i64 0] 79)
  have cbk0 := Joins.cell_of_block bk 0
  have cbk1 := Joins.cell_of_block bk 1
  have cbk2 := Joins.cell_of_block bk 2
  have cbk3 := Joins.cell_of_block bk 3
  have cbk4 := Joins.cell_of_block bk 4
  have zbk := size_of_block bk
  go_wp2_with fail
  generalize ((w.alloc (.cells #[.int .i64 k.room, .int .i64 k.per, .slice A1 k.ls.length c1, .slice A2 k.ds.length c2, .slice A3 k.ws.length c3] 26)).alloc (.cells #[.slice none 0 0, .slice none 0 0, .int .i64 0] 79)) = w1 at bk br HB cbk0 cbk1 cbk2 cbk3 cbk4 zbk ⊢
  have hB := HB
  clear HB
  refine (rcheck_c k _ w1 (HK.out.later hB)).mono ?_
  rintro e w2 ⟨rfl, hF⟩
  clear cbk0 cbk1 cbk2 cbk3 cbk4 zbk
  replace bk := (hF.block _ (size_of_block bk)).trans bk
  replace br := (hF.block _ (size_of_block br)).trans br
  replace hB := below_then hB hF
  clear hF
  rw [hc]
  clear hc
  have cbk0 := Joins.cell_of_block bk 0
  have cbk1 := Joins.cell_of_block bk 1
  have cbk2 := Joins.cell_of_block bk 2
  have cbk3 := Joins.cell_of_block bk 3
  have cbk4 := Joins.cell_of_block bk 4
  have zbk := size_of_block bk
  go_wp2_with fail
  refine (YD.out _ w2 (HK.out.later hB)).mono ?_
  rintro e w3 ⟨rfl, hF⟩
  clear cbk0 cbk1 cbk2 cbk3 cbk4 zbk
  replace bk := (hF.block _ (size_of_block bk)).trans bk
  replace br := (hF.block _ (size_of_block br)).trans br
  replace hB := below_then hB hF
  clear hF
  have HPP := Lib.hid (fun j : Nat => cell_setRow_same w3 (w.heap.size + 1) j _ #[.slice none 0 0, .slice none 0 0, .int .i64 5] _ _ br)
  have HBF := Lib.hid (below_setRow hB (show w.heap.size ≤ w.heap.size + 1 by omega) #[.slice none 0 0, .slice none 0 0, .int .i64 5])
  go_wp2_with (first | (refine wpList_store_rowTo rfl 79 _ _ rfl rfl (w.heap.size + 1) #[.slice none 0 0, .slice none 0 0, .int .i64 5] rfl rfl 79 _ br (by kernel_rfl) rfl (by kernel_rfl) ?_))
  all_goals (try (exfalso; omega))
  refine bodyPost_ret (v := .agg #[.slice none 0 0, .slice none 0 0, .int .i64 5]) ?_ rfl ⟨_, _, by rw [HEE.out], ⟨by rw [HSS.out.1]; exact World.ownsRow_nil _ _ _ _, by rw [HSS.out.2]; exact World.ownsRow_nil _ _ _ _⟩, HBF.out⟩
  simp [results, Tryz.results50, go_sem, HPP.out]
set_option maxRecDepth 100000 in
set_option maxHeartbeats 4000000 in
theorem rSources_cant (k : Kl) (v : Value) (id : Int) (w : World) (hk : Kiln w v k) (hc : checkI k = 0) (h1 : ¬ place k.ds id < 0) (hcan : canB (tiesL k) = false) : Calls Tryz.prog 50 #[v, .int .i64 id] w fun e w' => ∃ u1 u2, e = .returned (.agg #[u1, u2, .int .i64 (sourceE k id)]) ∧ (w'.ownsRow w.heap.size 3 1 u1 (sourceS k id).length ((sourceS k id).map (Value.int .i64)) ∧ w'.ownsRow w.heap.size 3 1 u2 (sourceM k id).length ((sourceM k id).map (Value.int .i64))) ∧ Below w.heap.size w w' := by
  have HEE := Lib.hid (show sourceE k id = 9 by rw [source_is hc, if_neg h1, if_neg (by simp [hcan])])
  have HSS := Lib.hid (show sourceS k id = [] ∧ sourceM k id = [] by unfold sourceS sourceM; rw [HEE.out, if_neg (by omega), if_neg (by omega)]; exact ⟨rfl, rfl⟩)
  have hR := right_of_check hc
  have yN := fun v W h => rCan_c k v W h hR
  rw [hcan] at yN
  have YN := Lib.hid yN
  have yd := fun v W h => draw_c k v id W h
  obtain ⟨pd, hpd⟩ : ∃ x, x = place k.ds id := ⟨_, rfl⟩
  rw [← hpd] at yd
  have YD := Lib.hid yd
  rw [← hpd] at h1
  clear yd hpd hR yN hcan
  obtain ⟨A1, c1, A2, c2, A3, c3, rfl⟩ := kilnForm hk
  have HK := Lib.hid hk
  clear hk
  go_enter Tryz.func50, Tryz.ntmps50
  obtain ⟨bk, br, -, HB⟩ := two_new' w (.cells #[.int .i64 k.room, .int .i64 k.per, .slice A1 k.ls.length c1, .slice A2 k.ds.length c2, .slice A3 k.ws.length c3] 26) (.cells #[.slice none 0 0, .slice none 0 0, .int .i64 0] 79)
  have cbk0 := Joins.cell_of_block bk 0
  have cbk1 := Joins.cell_of_block bk 1
  have cbk2 := Joins.cell_of_block bk 2
  have cbk3 := Joins.cell_of_block bk 3
  have cbk4 := Joins.cell_of_block bk 4
  have zbk := size_of_block bk
  go_wp2_with fail
  generalize ((w.alloc (.cells #[.int .i64 k.room, .int .i64 k.per, .slice A1 k.ls.length c1, .slice A2 k.ds.length c2, .slice A3 k.ws.length c3] 26)).alloc (.cells #[.slice none 0 0, .slice none 0 0, .int .i64 0] 79)) = w1 at bk br HB cbk0 cbk1 cbk2 cbk3 cbk4 zbk ⊢
  have hB := HB
  clear HB
  refine (rcheck_c k _ w1 (HK.out.later hB)).mono ?_
  rintro e w2 ⟨rfl, hF⟩
  clear cbk0 cbk1 cbk2 cbk3 cbk4 zbk
  replace bk := (hF.block _ (size_of_block bk)).trans bk
  replace br := (hF.block _ (size_of_block br)).trans br
  replace hB := below_then hB hF
  clear hF
  rw [hc]
  clear hc
  have cbk0 := Joins.cell_of_block bk 0
  have cbk1 := Joins.cell_of_block bk 1
  have cbk2 := Joins.cell_of_block bk 2
  have cbk3 := Joins.cell_of_block bk 3
  have cbk4 := Joins.cell_of_block bk 4
  have zbk := size_of_block bk
  go_wp2_with fail
  refine (YD.out _ w2 (HK.out.later hB)).mono ?_
  rintro e w3 ⟨rfl, hF⟩
  clear cbk0 cbk1 cbk2 cbk3 cbk4 zbk
  replace bk := (hF.block _ (size_of_block bk)).trans bk
  replace br := (hF.block _ (size_of_block br)).trans br
  replace hB := below_then hB hF
  clear hF
  have cbk0 := Joins.cell_of_block bk 0
  have cbk1 := Joins.cell_of_block bk 1
  have cbk2 := Joins.cell_of_block bk 2
  have cbk3 := Joins.cell_of_block bk 3
  have cbk4 := Joins.cell_of_block bk 4
  have zbk := size_of_block bk
  go_wp2_with fail
  all_goals (try (exfalso; omega))
  refine (YN.out _ w3 (HK.out.later hB)).mono ?_
  rintro e w4 ⟨rfl, hF⟩
  clear cbk0 cbk1 cbk2 cbk3 cbk4 zbk
  replace bk := (hF.block _ (size_of_block bk)).trans bk
  replace br := (hF.block _ (size_of_block br)).trans br
  replace hB := below_then hB hF
  clear hF
  have HPP := Lib.hid (fun j : Nat => cell_setRow_same w4 (w.heap.size + 1) j _ #[.slice none 0 0, .slice none 0 0, .int .i64 9] _ _ br)
  have HBF := Lib.hid (below_setRow hB (show w.heap.size ≤ w.heap.size + 1 by omega) #[.slice none 0 0, .slice none 0 0, .int .i64 9])
  go_wp2_with (first | (refine wpList_store_rowTo rfl 79 _ _ rfl rfl (w.heap.size + 1) #[.slice none 0 0, .slice none 0 0, .int .i64 9] rfl rfl 79 _ br (by kernel_rfl) rfl (by kernel_rfl) ?_))
  all_goals (try (exfalso; omega))
  refine bodyPost_ret (v := .agg #[.slice none 0 0, .slice none 0 0, .int .i64 9]) ?_ rfl ⟨_, _, by rw [HEE.out], ⟨by rw [HSS.out.1]; exact World.ownsRow_nil _ _ _ _, by rw [HSS.out.2]; exact World.ownsRow_nil _ _ _ _⟩, HBF.out⟩
  simp [results, Tryz.results50, go_sem, HPP.out]
set_option maxRecDepth 100000 in
set_option maxHeartbeats 16000000 in
theorem rSources_ok (k : Kl) (v : Value) (id : Int) (w : World) (hk : Kiln w v k) (hc : checkI k = 0) (h1 : ¬ place k.ds id < 0) (hcan : canB (tiesL k) = true) : Calls Tryz.prog 50 #[v, .int .i64 id] w fun e w' => ∃ u1 u2, e = .returned (.agg #[u1, u2, .int .i64 (sourceE k id)]) ∧ (w'.ownsRow w.heap.size 3 1 u1 (sourceS k id).length ((sourceS k id).map (Value.int .i64)) ∧ w'.ownsRow w.heap.size 3 1 u2 (sourceM k id).length ((sourceM k id).map (Value.int .i64))) ∧ Below w.heap.size w w' := by
  have HEE := Lib.hid (show sourceE k id = 0 by rw [source_is hc, if_neg h1, if_pos hcan])
  have hR := right_of_check hc
  have yN := fun v W h => rCan_c k v W h hR
  rw [hcan] at yN
  have YN := Lib.hid yN
  have pr1 := place_range k.ds id
  have yd := fun v W h => draw_c k v id W h
  obtain ⟨q, hq⟩ := Int.eq_ofNat_of_zero_le (show 0 ≤ place k.ds id by omega)
  rw [hq] at yd
  have YD := Lib.hid yd
  have HSS := Lib.hid (show sourceS k id = (sureL (tiesL k) k.ls 0 (drawP k q) k.ls.length) ∧ sourceM k id = (someL (tiesL k) k.ls 0 (drawP k q) k.ls.length) by unfold sourceS sourceM; rw [if_pos HEE.out, if_pos HEE.out, hq]; exact ⟨rfl, rfl⟩)
  have hqj : q < k.ds.length := by omega
  have n1 := hR.ls
  have n2 := hR.ds
  have YS := Lib.hid (fun (j : Nat) v W h (hj : j < k.ls.length) => (show Calls Tryz.prog 119 #[v, .int .i64 q, .int .i64 j] W (fun e w' => e = .returned (.agg #[.int .i64 (leastZ (tiesL k) ⟨markB 0 (j : Int), markB 0 ((j : Int) + 1)⟩ (drawP k q)), .int .i64 (mostZ (tiesL k) ⟨markB 0 (j : Int), markB 0 ((j : Int) + 1)⟩ (drawP k q))]) ∧ Below W.heap.size W w') by rw [loadP_mark]; exact rshare_c k v q j W h hR hcan hqj hj))
  have HSN := Lib.hid (fun (j : Nat) (x : Rec) (hx : k.ls[j]? = some x) => sureL_snoc (l := tiesL k) (bs := 0) (p := (drawP k q)) hx)
  have HMN := Lib.hid (fun (j : Nat) (x : Rec) (hx : k.ls[j]? = some x) => someL_snoc (l := tiesL k) (bs := 0) (p := (drawP k q)) hx)
  have HSL := Lib.hid (fun j : Nat => sureL_len (tiesL k) k.ls 0 (drawP k q) j)
  have HML := Lib.hid (fun j : Nat => someL_len (tiesL k) k.ls 0 (drawP k q) j)
  have HZ := Lib.hid (show (sureL (tiesL k) k.ls 0 (drawP k q) 0) = [] ∧ (someL (tiesL k) k.ls 0 (drawP k q) 0) = [] from ⟨rfl, rfl⟩)
  obtain ⟨SF, hSF⟩ : ∃ f : Nat → List Int, f = fun j => (sureL (tiesL k) k.ls 0 (drawP k q) j) := ⟨_, rfl⟩
  obtain ⟨MF, hMF⟩ : ∃ f : Nat → List Int, f = fun j => (someL (tiesL k) k.ls 0 (drawP k q) j) := ⟨_, rfl⟩
  have HSE := Lib.hid (show ∀ j, (sureL (tiesL k) k.ls 0 (drawP k q) j) = SF j from fun j => by rw [hSF])
  have HME := Lib.hid (show ∀ j, (someL (tiesL k) k.ls 0 (drawP k q) j) = MF j from fun j => by rw [hMF])
  obtain ⟨LZ, hLZ⟩ : ∃ f : Nat → Int, f = fun j : Nat => leastZ (tiesL k) ⟨markB 0 (j : Int), markB 0 ((j : Int) + 1)⟩ (drawP k q) := ⟨_, rfl⟩
  obtain ⟨MZ, hMZ⟩ : ∃ f : Nat → Int, f = fun j : Nat => mostZ (tiesL k) ⟨markB 0 (j : Int), markB 0 ((j : Int) + 1)⟩ (drawP k q) := ⟨_, rfl⟩
  have HS9 : Hid (∀ (j : Nat) x, k.ls[j]? = some x → SF (j + 1) = SF j ++ if 0 < LZ j then [x.id] else []) := Lib.hid (fun j x hx => by rw [hSF, hLZ]; exact HSN.out j x hx)
  have HM9 : Hid (∀ (j : Nat) x, k.ls[j]? = some x → MF (j + 1) = MF j ++ if 0 < MZ j then [x.id] else []) := Lib.hid (fun j x hx => by rw [hMF, hMZ]; exact HMN.out j x hx)
  have HL9 : Hid (∀ j, (SF j).length ≤ j ∧ (MF j).length ≤ j) := Lib.hid (fun j => by rw [hSF, hMF]; exact ⟨HSL.out j, HML.out j⟩)
  have HZ9 : Hid (SF 0 = [] ∧ MF 0 = []) := Lib.hid (by rw [hSF, hMF]; exact HZ.out)
  have YS9 : Hid (∀ (j : Nat) v W, Kiln W v k → j < k.ls.length → Calls Tryz.prog 119 #[v, .int .i64 q, .int .i64 j] W (fun e w' => e = .returned (.agg #[.int .i64 (LZ j), .int .i64 (MZ j)]) ∧ Below W.heap.size W w')) := Lib.hid (fun j v W h hj => by rw [hLZ, hMZ]; exact YS.out j v W h hj)
  have HF9 : Hid (sourceS k id = SF k.ls.length ∧ sourceM k id = MF k.ls.length) := Lib.hid (by rw [hSF, hMF]; exact HSS.out)
  clear YS HSN HMN HSL HML HZ HSE HME HSS hLZ hMZ hSF hMF
  obtain ⟨i0, hi, hz0, hz1, hz2⟩ := info_parts Tryz.infoIntT
  have HI := Lib.hid hi
  have HI0 := Lib.hid hz0
  have HI1 := Lib.hid hz1
  have HI2 := Lib.hid hz2
  clear yd yN hR hcan pr1 hi hz0 hz1 hz2
  obtain ⟨A1, c1, A2, c2, A3, c3, rfl⟩ := kilnForm hk
  have HK := Lib.hid hk
  clear hk
  go_enter Tryz.func50, Tryz.ntmps50
  obtain ⟨bk, br, -, HB⟩ := two_new' w (.cells #[.int .i64 k.room, .int .i64 k.per, .slice A1 k.ls.length c1, .slice A2 k.ds.length c2, .slice A3 k.ws.length c3] 26) (.cells #[.slice none 0 0, .slice none 0 0, .int .i64 0] 79)
  have cbk0 := Joins.cell_of_block bk 0
  have cbk1 := Joins.cell_of_block bk 1
  have cbk2 := Joins.cell_of_block bk 2
  have cbk3 := Joins.cell_of_block bk 3
  have cbk4 := Joins.cell_of_block bk 4
  have zbk := size_of_block bk
  go_wp2_with fail
  generalize ((w.alloc (.cells #[.int .i64 k.room, .int .i64 k.per, .slice A1 k.ls.length c1, .slice A2 k.ds.length c2, .slice A3 k.ws.length c3] 26)).alloc (.cells #[.slice none 0 0, .slice none 0 0, .int .i64 0] 79)) = w1 at bk br HB cbk0 cbk1 cbk2 cbk3 cbk4 zbk ⊢
  have hB := HB
  clear HB
  refine (rcheck_c k _ w1 (HK.out.later hB)).mono ?_
  rintro e w2 ⟨rfl, hF⟩
  clear cbk0 cbk1 cbk2 cbk3 cbk4 zbk
  replace bk := (hF.block _ (size_of_block bk)).trans bk
  replace br := (hF.block _ (size_of_block br)).trans br
  replace hB := below_then hB hF
  clear hF
  rw [hc]
  clear hc h1
  have cbk0 := Joins.cell_of_block bk 0
  have cbk1 := Joins.cell_of_block bk 1
  have cbk2 := Joins.cell_of_block bk 2
  have cbk3 := Joins.cell_of_block bk 3
  have cbk4 := Joins.cell_of_block bk 4
  have zbk := size_of_block bk
  go_wp2_with fail
  refine (YD.out _ w2 (HK.out.later hB)).mono ?_
  rintro e w3 ⟨rfl, hF⟩
  clear cbk0 cbk1 cbk2 cbk3 cbk4 zbk
  replace bk := (hF.block _ (size_of_block bk)).trans bk
  replace br := (hF.block _ (size_of_block br)).trans br
  replace hB := below_then hB hF
  clear hF
  skip
  have cbk0 := Joins.cell_of_block bk 0
  have cbk1 := Joins.cell_of_block bk 1
  have cbk2 := Joins.cell_of_block bk 2
  have cbk3 := Joins.cell_of_block bk 3
  have cbk4 := Joins.cell_of_block bk 4
  have zbk := size_of_block bk
  go_wp2_with fail
  all_goals (try (exfalso; omega))
  refine (YN.out _ w3 (HK.out.later hB)).mono ?_
  rintro e w4 ⟨rfl, hF⟩
  clear cbk0 cbk1 cbk2 cbk3 cbk4 zbk
  replace bk := (hF.block _ (size_of_block bk)).trans bk
  replace br := (hF.block _ (size_of_block br)).trans br
  replace hB := below_then hB hF
  clear hF
  have hbr0 := size_of_block br
  have bo0 := heap_alloc_new w4 (.cells #[.slice none 0 0, .slice none 0 0, .int .i64 0] 79)
  have HB := below_alloc w4 (.cells #[.slice none 0 0, .slice none 0 0, .int .i64 0] 79)
  go_wp2_with fail
  generalize w4.alloc _ = wA at bo0 HB ⊢
  replace bk := (HB.block _ (size_of_block bk)).trans bk
  replace br := (HB.block _ (size_of_block br)).trans br
  replace hB := below_then hB HB
  have hob1 : w.heap.size + 1 < w4.heap.size := hbr0
  generalize w4.heap.size = ob at bo0 hob1 ⊢
  clear HB hbr0
  have BK := Lib.hid bk
  have BR := Lib.hid br
  clear bk br
  go_loopw [9] (fun i wr => ∃ (j : Nat) (Av : Option Addr) (cv : Nat) (Am : Option Addr) (cm : Nat), j ≤ k.ls.length ∧ i = .int .i64 j ∧ wr.heap[w.heap.size]? = some (.cells #[.int .i64 k.room, .int .i64 k.per, .slice A1 k.ls.length c1, .slice A2 k.ds.length c2, .slice A3 k.ws.length c3] 26) ∧ wr.heap[w.heap.size + 1]? = some (.cells #[.slice none 0 0, .slice none 0 0, .int .i64 0] 79) ∧ wr.heap[ob]? = some (.cells #[.slice Av (SF j).length cv, .slice Am (MF j).length cm, .int .i64 0] 79) ∧ wr.ownsRow w.heap.size 3 1 (.slice Av (SF j).length cv) (SF j).length ((SF j).map (Value.int .i64)) ∧ wr.ownsRow w.heap.size 3 1 (.slice Am (MF j).length cm) (MF j).length ((MF j).map (Value.int .i64)) ∧ Hid (Apart (.slice Av (SF j).length cv) (.slice Am (MF j).length cm)) ∧ Below w.heap.size w wr) (fun i _ => k.ls.length - (intOf i).toNat)
  case atStart => exact ⟨0, none, 0, none, 0, Nat.zero_le _, rfl, BK.out, BR.out, by rw [HZ9.out.1, HZ9.out.2]; exact bo0, by rw [HZ9.out.1]; exact World.ownsRow_nil _ _ _ _, by rw [HZ9.out.2]; exact World.ownsRow_nil _ _ _ _, Lib.hid (fun g h => by cases h), hB⟩
  case round =>
    clear bo0 hB BK BR
    obtain ⟨j, Av, cv, Am, cm, hj, rfl, bk, br, bo, hO1, hO2, hD, hB⟩ := hrel
    by_cases hlt : j < k.ls.length
    · obtain ⟨x, hx⟩ : ∃ x, k.ls[j]? = some x := ⟨_, List.getElem?_eq_getElem hlt⟩
      have hs9 := HS9.out j x hx
      have hm9 := HM9.out j x hx
      have HX := Lib.hid hx
      clear hx
      obtain ⟨hl1, hl2⟩ := HL9.out j
      obtain ⟨L1, hL1⟩ : ∃ l, l = SF j := ⟨_, rfl⟩
      obtain ⟨L2, hL2⟩ : ∃ l, l = MF j := ⟨_, rfl⟩
      rw [← hL1] at hO1 hD bo hs9 hl1
      rw [← hL2] at hO2 hD bo hm9 hl2
      have y9 := fun v W h => YS9.out j v W h hlt
      obtain ⟨z1, hz1⟩ : ∃ z, z = LZ j := ⟨_, rfl⟩
      obtain ⟨z2, hz2⟩ : ∃ z, z = MZ j := ⟨_, rfl⟩
      rw [← hz1] at y9 hs9
      rw [← hz2] at y9 hm9
      have Y9 := Lib.hid y9
      have HS8 := Lib.hid hs9
      have HM8 := Lib.hid hm9
      clear hL1 hL2 hz1 hz2 y9 hs9 hm9
      have hkW := HK.out.later hB
      obtain ⟨al, ad, aw, e9, hl, hd, _⟩ := hkW
      obtain ⟨rfl, rfl, rfl⟩ : .slice A1 k.ls.length c1 = al ∧ .slice A2 k.ds.length c2 = ad ∧ .slice A3 k.ws.length c3 = aw := by simpa using e9
      obtain ⟨A', c', e8, _, hln, hat⟩ := hl.open_
      obtain ⟨rfl, rfl⟩ : A1 = A' ∧ c1 = c' := by simpa using e8
      obtain ⟨sb, so, y, rfl, -, -, -, -, -, -⟩ := hat j hlt
      clear hat hl hd e8 e9 hln
      have cbk0 := Joins.cell_of_block bk 0
      have cbk1 := Joins.cell_of_block bk 1
      have cbk2 := Joins.cell_of_block bk 2
      have cbk3 := Joins.cell_of_block bk 3
      have cbk4 := Joins.cell_of_block bk 4
      have zbk := size_of_block bk
      go_wp2_with fail
      refine (Y9.out _ wr (HK.out.later hB)).mono ?_
      rintro e w101 ⟨rfl, hF⟩
      clear cbk0 cbk1 cbk2 cbk3 cbk4 zbk
      replace bk := (hF.block _ (size_of_block bk)).trans bk
      replace br := (hF.block _ (size_of_block br)).trans br
      replace bo := (hF.block _ (size_of_block bo)).trans bo
      replace hO1 := own_later hO1 hF
      replace hO2 := own_later hO2 hF
      replace hB := below_then hB hF
      clear hF
      by_cases hs0 : 0 < z1
      · by_cases hm0 : 0 < z2
        · rw [if_pos hs0] at HS8
          rw [if_pos hm0] at HM8
          have hsx := size_of_block bo
          have bs := heap_alloc_new w101 (.cells #[.int .i64 z1, .int .i64 z2] 63)
          have HB := below_alloc w101 (.cells #[.int .i64 z1, .int .i64 z2] 63)
          have cbs0 := Joins.cell_of_block bs 0
          have cbs1 := Joins.cell_of_block bs 1
          have zbs := size_of_block bs
          go_wp2_with fail
          all_goals (try (exfalso; omega))
          generalize (w101.alloc (.cells #[.int .i64 z1, .int .i64 z2] 63)) = w102 at bs HB cbs0 cbs1 zbs ⊢
          replace bk := (HB.block _ (size_of_block bk)).trans bk
          replace br := (HB.block _ (size_of_block br)).trans br
          replace bo := (HB.block _ (size_of_block bo)).trans bo
          replace hO1 := own_later hO1 HB
          replace hO2 := own_later hO2 HB
          replace hB := below_then hB HB
          clear HB
          clear cbs0 cbs1 zbs
          generalize w101.heap.size = sx at bs hsx ⊢
          have hkW := HK.out.later hB
          obtain ⟨al, ad, aw, e9, hl, hd, _⟩ := hkW
          obtain ⟨rfl, rfl, rfl⟩ : .slice (some ⟨sb, so, none⟩) k.ls.length c1 = al ∧ .slice A2 k.ds.length c2 = ad ∧ .slice A3 k.ws.length c3 = aw := by simpa using e9
          obtain ⟨A', c', e8, _, hln, hat⟩ := hl.open_
          obtain ⟨rfl, rfl⟩ : (some ⟨sb, so, none⟩) = A' ∧ c1 = c' := by simpa using e8
          obtain ⟨sb', so', y, hAA, hsb, hy, ya, _, _, _⟩ := hat j hlt
          obtain ⟨rfl, rfl⟩ : sb = sb' ∧ so = so' := by simpa using hAA
          obtain rfl : x = y := by rw [HX.out] at hy; simpa using hy
          clear hat hl hd e8 e9 hln hy hAA
          refine wp_region_looseM [] [0, 1, 2, 3, 4, 5, 6, 7] (.one 8 .done) [] [] [9, 10, 11] [] [] (by kernel_rfl) (by kernel_rfl) (by intro c a d v w h; cases d <;> exact h) (by intro c a d v w h; cases d <;> exact h) rfl (fun r i h => by simp at h) ?_
          simp only [pick, List.filterMap_cons, List.filterMap_nil, List.getElem?_toArray, List.getElem?_cons_succ, List.getElem?_cons_zero]
          intro u103x1 hu
          replace ya := (hu.cell (p := ⟨sb, so + j * 4, none⟩) hsb).trans ya
          replace hsb := Nat.lt_of_lt_of_le hsb hu.size
          replace bk := (hu.block _ (size_of_block bk)).trans bk
          replace br := (hu.block _ (size_of_block br)).trans br
          replace bo := (hu.block _ (size_of_block bo)).trans bo
          replace bs := (hu.block _ (size_of_block bs)).trans bs
          replace hO1 := own_later hO1 hu
          replace hO2 := own_later hO2 hu
          replace hB := below_then hB hu
          clear hu
          have cbk0 := Joins.cell_of_block bk 0
          have cbk1 := Joins.cell_of_block bk 1
          have cbk2 := Joins.cell_of_block bk 2
          have cbk3 := Joins.cell_of_block bk 3
          have cbk4 := Joins.cell_of_block bk 4
          have zbk := size_of_block bk
          have cbo0 := Joins.cell_of_block bo 0
          have cbo1 := Joins.cell_of_block bo 1
          have cbo2 := Joins.cell_of_block bo 2
          have zbo := size_of_block bo
          have hcg : ∀ (g : Gr u103x1) b o, b < u103x1.heap.size → g.val.cell? ⟨b, o, none⟩ = u103x1.cell? ⟨b, o, none⟩ := fun g b o h => (bcell g.b).1 b o h
          iterate 8 (refine wpRel_step (fun K hK => ?_); go_simp; refine hK _ ?_; clear hK K)
          refine wpRel_nil fun V0 hb0 => ?_
          clear hcg ya hsb cbk0 cbk1 cbk2 cbk3 cbk4 zbk cbo0 cbo1 cbo2 zbo
          replace bk := (hb0.block _ (size_of_block bk)).trans bk
          replace br := (hb0.block _ (size_of_block br)).trans br
          replace bo := (hb0.block _ (size_of_block bo)).trans bo
          replace bs := (hb0.block _ (size_of_block bs)).trans bs
          replace hO1 := own_later hO1 hb0
          replace hO2 := own_later hO2 hb0
          replace hB := below_then hB hb0
          clear hb0
          refine wpTr_step rfl rfl fun K hK => ?_
          go_simp
          refine hK _ _ (below_alloc _ _) fun V1 hu1 => ?_
          clear hK K
          have yn := (hu1.block _ (by simp)).trans (heap_alloc_new V0 (.cells #[.int .i64 x.id] 3))
          have D1 := below_then (below_alloc V0 (.cells #[.int .i64 x.id] 3)) hu1
          have zn := size_of_block yn
          replace bk := (D1.block _ (size_of_block bk)).trans bk
          replace br := (D1.block _ (size_of_block br)).trans br
          replace bo := (D1.block _ (size_of_block bo)).trans bo
          replace bs := (D1.block _ (size_of_block bs)).trans bs
          replace hO1 := own_later hO1 D1
          replace hO2 := own_later hO2 D1
          replace hB := below_then hB D1
          clear D1 hu1
          show wpPure _ _ _ _
          intro ks hks _ _
          obtain rfl : ks = [] := List.length_eq_zero_iff.1 hks
          clear hks
          show wpList _ _ _ _ _ _
          simp only [deco]
          refine wpList_append_own_at _ rfl _ _ 27 rfl w.heap.size 3 i0 (.int .i64 0) 1 8 Tryz.underlying27 HI.out HI0.out HI1.out HI2.out rfl (by decide) _ _ _ rfl hO1 ⟨V0.heap.size, 0, none⟩ 1 1 [.int .i64 x.id] rfl rfl (one_cell yn) (one_oneCell rfl) ?c3 ?c4 ?c5 ?_
          case c3 => unfold maxLen; omega
          case c4 => omega
          case c5 => exact hB.size
          intro v1 w1' hown' hgrow _ hat
          obtain ⟨hk2, hD2⟩ := app_apart2 hO2 hD.out hgrow hat
          replace bk := (hgrow.block _ (size_of_block bk) (Ne.symm (own_ne_block hO1 bk (by decide)))).trans bk
          replace br := (hgrow.block _ (size_of_block br) (Ne.symm (own_ne_block hO1 br (by decide)))).trans br
          replace bo := (hgrow.block _ (size_of_block bo) (Ne.symm (own_ne_block hO1 bo (by decide)))).trans bo
          replace bs := (hgrow.block _ (size_of_block bs) (Ne.symm (own_ne_block hO1 bs (by decide)))).trans bs
          replace hB := below_own hB hB.size hO1 hgrow
          replace hO2 := hk2
          replace hO1 : w1'.ownsRow w.heap.size 3 1 v1 (L1.length + 1) ((L1 ++ [x.id]).map (Value.int .i64)) := by rw [List.map_append]; exact hown'
          replace hD := Lib.hid hD2
          clear hown' hgrow hat hk2 hD2 yn zn
          have f4 := Joins.unfrozen_of_block bo 0
          have s4 := Joins.cell_of_block bo 0
          have zo4 := size_of_block bo
          replace bk := (put_other (i := 0) v1 (show w.heap.size ≠ ob by omega)).trans bk
          replace br := (put_other (i := 0) v1 (show w.heap.size + 1 ≠ ob by omega)).trans br
          replace bs := (put_other (i := 0) v1 (show sx ≠ ob by omega)).trans bs
          replace hO1 := own_setCell hO1 0 v1 (own_ne_block hO1 bo (by decide))
          replace hO2 := own_setCell hO2 0 v1 (own_ne_block hO2 bo (by decide))
          replace hB := below_set (i := 0) (v := v1) hB (show w.heap.size ≤ ob by omega)
          replace bo := Joins.block_setCell (i := 0) bo v1
          obtain ⟨B1, e1, rfl⟩ := own_form hO1
          show wpList _ _ _ _ _ _
          have cbs0 := Joins.cell_of_block bs 0
          have cbs1 := Joins.cell_of_block bs 1
          have zbs := size_of_block bs
          go_wp2_with fail
          all_goals (try (exfalso; omega))
          clear cbs0 cbs1 zbs
          have hkW := HK.out.later hB
          obtain ⟨al, ad, aw, e9, hl, hd, _⟩ := hkW
          obtain ⟨rfl, rfl, rfl⟩ : .slice (some ⟨sb, so, none⟩) k.ls.length c1 = al ∧ .slice A2 k.ds.length c2 = ad ∧ .slice A3 k.ws.length c3 = aw := by simpa using e9
          obtain ⟨A', c', e8, _, hln, hat⟩ := hl.open_
          obtain ⟨rfl, rfl⟩ : (some ⟨sb, so, none⟩) = A' ∧ c1 = c' := by simpa using e8
          obtain ⟨sb', so', y, hAA, hsb, hy, ya, _, _, _⟩ := hat j hlt
          obtain ⟨rfl, rfl⟩ : sb = sb' ∧ so = so' := by simpa using hAA
          obtain rfl : x = y := by rw [HX.out] at hy; simpa using hy
          clear hat hl hd e8 e9 hln hy hAA
          refine wp_region_looseM [] [0, 1, 2, 3, 4, 5, 6, 7] (.one 8 .done) [] [] [9, 10, 11] [] [] (by kernel_rfl) (by kernel_rfl) (by intro c a d v w h; cases d <;> exact h) (by intro c a d v w h; cases d <;> exact h) rfl (fun r i h => by simp at h) ?_
          simp only [pick, List.filterMap_cons, List.filterMap_nil, List.getElem?_toArray, List.getElem?_cons_succ, List.getElem?_cons_zero]
          intro u104x2 hu
          replace ya := (hu.cell (p := ⟨sb, so + j * 4, none⟩) hsb).trans ya
          replace hsb := Nat.lt_of_lt_of_le hsb hu.size
          replace bk := (hu.block _ (size_of_block bk)).trans bk
          replace br := (hu.block _ (size_of_block br)).trans br
          replace bo := (hu.block _ (size_of_block bo)).trans bo
          replace bs := (hu.block _ (size_of_block bs)).trans bs
          replace hO1 := own_later hO1 hu
          replace hO2 := own_later hO2 hu
          replace hB := below_then hB hu
          clear hu
          have cbk0 := Joins.cell_of_block bk 0
          have cbk1 := Joins.cell_of_block bk 1
          have cbk2 := Joins.cell_of_block bk 2
          have cbk3 := Joins.cell_of_block bk 3
          have cbk4 := Joins.cell_of_block bk 4
          have zbk := size_of_block bk
          have cbo0 := Joins.cell_of_block bo 0
          have cbo1 := Joins.cell_of_block bo 1
          have cbo2 := Joins.cell_of_block bo 2
          have zbo := size_of_block bo
          have hcg : ∀ (g : Gr u104x2) b o, b < u104x2.heap.size → g.val.cell? ⟨b, o, none⟩ = u104x2.cell? ⟨b, o, none⟩ := fun g b o h => (bcell g.b).1 b o h
          iterate 8 (refine wpRel_step (fun K hK => ?_); go_simp; refine hK _ ?_; clear hK K)
          refine wpRel_nil fun V0 hb0 => ?_
          clear hcg ya hsb cbk0 cbk1 cbk2 cbk3 cbk4 zbk cbo0 cbo1 cbo2 zbo
          replace bk := (hb0.block _ (size_of_block bk)).trans bk
          replace br := (hb0.block _ (size_of_block br)).trans br
          replace bo := (hb0.block _ (size_of_block bo)).trans bo
          replace bs := (hb0.block _ (size_of_block bs)).trans bs
          replace hO1 := own_later hO1 hb0
          replace hO2 := own_later hO2 hb0
          replace hB := below_then hB hb0
          clear hb0
          refine wpTr_step rfl rfl fun K hK => ?_
          go_simp
          refine hK _ _ (below_alloc _ _) fun V1 hu1 => ?_
          clear hK K
          have yn := (hu1.block _ (by simp)).trans (heap_alloc_new V0 (.cells #[.int .i64 x.id] 3))
          have D1 := below_then (below_alloc V0 (.cells #[.int .i64 x.id] 3)) hu1
          have zn := size_of_block yn
          replace bk := (D1.block _ (size_of_block bk)).trans bk
          replace br := (D1.block _ (size_of_block br)).trans br
          replace bo := (D1.block _ (size_of_block bo)).trans bo
          replace bs := (D1.block _ (size_of_block bs)).trans bs
          replace hO1 := own_later hO1 D1
          replace hO2 := own_later hO2 D1
          replace hB := below_then hB D1
          clear D1 hu1
          show wpPure _ _ _ _
          intro ks hks _ _
          obtain rfl : ks = [] := List.length_eq_zero_iff.1 hks
          clear hks
          show wpList _ _ _ _ _ _
          simp only [deco]
          refine wpList_append_own_at _ rfl _ _ 27 rfl w.heap.size 3 i0 (.int .i64 0) 1 8 Tryz.underlying27 HI.out HI0.out HI1.out HI2.out rfl (by decide) _ _ _ rfl hO2 ⟨V0.heap.size, 0, none⟩ 1 1 [.int .i64 x.id] rfl rfl (one_cell yn) (one_oneCell rfl) ?c3 ?c4 ?c5 ?_
          case c3 => unfold maxLen; omega
          case c4 => omega
          case c5 => exact hB.size
          intro v2 w2' hown' hgrow _ hat
          obtain ⟨hk2, hD2⟩ := app_apart2 hO1 (apart_symm hD.out) hgrow hat
          replace bk := (hgrow.block _ (size_of_block bk) (Ne.symm (own_ne_block hO2 bk (by decide)))).trans bk
          replace br := (hgrow.block _ (size_of_block br) (Ne.symm (own_ne_block hO2 br (by decide)))).trans br
          replace bo := (hgrow.block _ (size_of_block bo) (Ne.symm (own_ne_block hO2 bo (by decide)))).trans bo
          replace bs := (hgrow.block _ (size_of_block bs) (Ne.symm (own_ne_block hO2 bs (by decide)))).trans bs
          replace hB := below_own hB hB.size hO2 hgrow
          replace hO1 := hk2
          replace hO2 : w2'.ownsRow w.heap.size 3 1 v2 (L2.length + 1) ((L2 ++ [x.id]).map (Value.int .i64)) := by rw [List.map_append]; exact hown'
          replace hD := Lib.hid (apart_symm hD2)
          clear hown' hgrow hat hk2 hD2 yn zn
          have f4 := Joins.unfrozen_of_block bo 1
          have s4 := Joins.cell_of_block bo 1
          have zo4 := size_of_block bo
          replace bk := (put_other (i := 1) v2 (show w.heap.size ≠ ob by omega)).trans bk
          replace br := (put_other (i := 1) v2 (show w.heap.size + 1 ≠ ob by omega)).trans br
          replace bs := (put_other (i := 1) v2 (show sx ≠ ob by omega)).trans bs
          replace hO1 := own_setCell hO1 1 v2 (own_ne_block hO1 bo (by decide))
          replace hO2 := own_setCell hO2 1 v2 (own_ne_block hO2 bo (by decide))
          replace hB := below_set (i := 1) (v := v2) hB (show w.heap.size ≤ ob by omega)
          replace bo := Joins.block_setCell (i := 1) bo v2
          obtain ⟨B2, e2, rfl⟩ := own_form hO2
          show wpList _ _ _ _ _ _
          go_wp2_with fail
          go_roundw
          case rel =>
            refine ⟨j + 1, B1, e1, B2, e2, by omega, by go_num, bk, br, ?_, ?_, ?_, ?_, hB⟩
            · rw [HS8.out, HM8.out]; simpa using bo
            · rw [HS8.out]; simpa using hO1
            · rw [HM8.out]; simpa using hO2
            · rw [HS8.out, HM8.out]; simpa using hD
          case measure => simp [intOf]; omega
        · rw [if_pos hs0] at HS8
          rw [if_neg hm0] at HM8
          have hsx := size_of_block bo
          have bs := heap_alloc_new w101 (.cells #[.int .i64 z1, .int .i64 z2] 63)
          have HB := below_alloc w101 (.cells #[.int .i64 z1, .int .i64 z2] 63)
          have cbs0 := Joins.cell_of_block bs 0
          have cbs1 := Joins.cell_of_block bs 1
          have zbs := size_of_block bs
          go_wp2_with fail
          all_goals (try (exfalso; omega))
          generalize (w101.alloc (.cells #[.int .i64 z1, .int .i64 z2] 63)) = w102 at bs HB cbs0 cbs1 zbs ⊢
          replace bk := (HB.block _ (size_of_block bk)).trans bk
          replace br := (HB.block _ (size_of_block br)).trans br
          replace bo := (HB.block _ (size_of_block bo)).trans bo
          replace hO1 := own_later hO1 HB
          replace hO2 := own_later hO2 HB
          replace hB := below_then hB HB
          clear HB
          clear cbs0 cbs1 zbs
          generalize w101.heap.size = sx at bs hsx ⊢
          have hkW := HK.out.later hB
          obtain ⟨al, ad, aw, e9, hl, hd, _⟩ := hkW
          obtain ⟨rfl, rfl, rfl⟩ : .slice (some ⟨sb, so, none⟩) k.ls.length c1 = al ∧ .slice A2 k.ds.length c2 = ad ∧ .slice A3 k.ws.length c3 = aw := by simpa using e9
          obtain ⟨A', c', e8, _, hln, hat⟩ := hl.open_
          obtain ⟨rfl, rfl⟩ : (some ⟨sb, so, none⟩) = A' ∧ c1 = c' := by simpa using e8
          obtain ⟨sb', so', y, hAA, hsb, hy, ya, _, _, _⟩ := hat j hlt
          obtain ⟨rfl, rfl⟩ : sb = sb' ∧ so = so' := by simpa using hAA
          obtain rfl : x = y := by rw [HX.out] at hy; simpa using hy
          clear hat hl hd e8 e9 hln hy hAA
          refine wp_region_looseM [] [0, 1, 2, 3, 4, 5, 6, 7] (.one 8 .done) [] [] [9, 10, 11] [] [] (by kernel_rfl) (by kernel_rfl) (by intro c a d v w h; cases d <;> exact h) (by intro c a d v w h; cases d <;> exact h) rfl (fun r i h => by simp at h) ?_
          simp only [pick, List.filterMap_cons, List.filterMap_nil, List.getElem?_toArray, List.getElem?_cons_succ, List.getElem?_cons_zero]
          intro u103x1 hu
          replace ya := (hu.cell (p := ⟨sb, so + j * 4, none⟩) hsb).trans ya
          replace hsb := Nat.lt_of_lt_of_le hsb hu.size
          replace bk := (hu.block _ (size_of_block bk)).trans bk
          replace br := (hu.block _ (size_of_block br)).trans br
          replace bo := (hu.block _ (size_of_block bo)).trans bo
          replace bs := (hu.block _ (size_of_block bs)).trans bs
          replace hO1 := own_later hO1 hu
          replace hO2 := own_later hO2 hu
          replace hB := below_then hB hu
          clear hu
          have cbk0 := Joins.cell_of_block bk 0
          have cbk1 := Joins.cell_of_block bk 1
          have cbk2 := Joins.cell_of_block bk 2
          have cbk3 := Joins.cell_of_block bk 3
          have cbk4 := Joins.cell_of_block bk 4
          have zbk := size_of_block bk
          have cbo0 := Joins.cell_of_block bo 0
          have cbo1 := Joins.cell_of_block bo 1
          have cbo2 := Joins.cell_of_block bo 2
          have zbo := size_of_block bo
          have hcg : ∀ (g : Gr u103x1) b o, b < u103x1.heap.size → g.val.cell? ⟨b, o, none⟩ = u103x1.cell? ⟨b, o, none⟩ := fun g b o h => (bcell g.b).1 b o h
          iterate 8 (refine wpRel_step (fun K hK => ?_); go_simp; refine hK _ ?_; clear hK K)
          refine wpRel_nil fun V0 hb0 => ?_
          clear hcg ya hsb cbk0 cbk1 cbk2 cbk3 cbk4 zbk cbo0 cbo1 cbo2 zbo
          replace bk := (hb0.block _ (size_of_block bk)).trans bk
          replace br := (hb0.block _ (size_of_block br)).trans br
          replace bo := (hb0.block _ (size_of_block bo)).trans bo
          replace bs := (hb0.block _ (size_of_block bs)).trans bs
          replace hO1 := own_later hO1 hb0
          replace hO2 := own_later hO2 hb0
          replace hB := below_then hB hb0
          clear hb0
          refine wpTr_step rfl rfl fun K hK => ?_
          go_simp
          refine hK _ _ (below_alloc _ _) fun V1 hu1 => ?_
          clear hK K
          have yn := (hu1.block _ (by simp)).trans (heap_alloc_new V0 (.cells #[.int .i64 x.id] 3))
          have D1 := below_then (below_alloc V0 (.cells #[.int .i64 x.id] 3)) hu1
          have zn := size_of_block yn
          replace bk := (D1.block _ (size_of_block bk)).trans bk
          replace br := (D1.block _ (size_of_block br)).trans br
          replace bo := (D1.block _ (size_of_block bo)).trans bo
          replace bs := (D1.block _ (size_of_block bs)).trans bs
          replace hO1 := own_later hO1 D1
          replace hO2 := own_later hO2 D1
          replace hB := below_then hB D1
          clear D1 hu1
          show wpPure _ _ _ _
          intro ks hks _ _
          obtain rfl : ks = [] := List.length_eq_zero_iff.1 hks
          clear hks
          show wpList _ _ _ _ _ _
          simp only [deco]
          refine wpList_append_own_at _ rfl _ _ 27 rfl w.heap.size 3 i0 (.int .i64 0) 1 8 Tryz.underlying27 HI.out HI0.out HI1.out HI2.out rfl (by decide) _ _ _ rfl hO1 ⟨V0.heap.size, 0, none⟩ 1 1 [.int .i64 x.id] rfl rfl (one_cell yn) (one_oneCell rfl) ?c3 ?c4 ?c5 ?_
          case c3 => unfold maxLen; omega
          case c4 => omega
          case c5 => exact hB.size
          intro v1 w1' hown' hgrow _ hat
          obtain ⟨hk2, hD2⟩ := app_apart2 hO2 hD.out hgrow hat
          replace bk := (hgrow.block _ (size_of_block bk) (Ne.symm (own_ne_block hO1 bk (by decide)))).trans bk
          replace br := (hgrow.block _ (size_of_block br) (Ne.symm (own_ne_block hO1 br (by decide)))).trans br
          replace bo := (hgrow.block _ (size_of_block bo) (Ne.symm (own_ne_block hO1 bo (by decide)))).trans bo
          replace bs := (hgrow.block _ (size_of_block bs) (Ne.symm (own_ne_block hO1 bs (by decide)))).trans bs
          replace hB := below_own hB hB.size hO1 hgrow
          replace hO2 := hk2
          replace hO1 : w1'.ownsRow w.heap.size 3 1 v1 (L1.length + 1) ((L1 ++ [x.id]).map (Value.int .i64)) := by rw [List.map_append]; exact hown'
          replace hD := Lib.hid hD2
          clear hown' hgrow hat hk2 hD2 yn zn
          have f4 := Joins.unfrozen_of_block bo 0
          have s4 := Joins.cell_of_block bo 0
          have zo4 := size_of_block bo
          replace bk := (put_other (i := 0) v1 (show w.heap.size ≠ ob by omega)).trans bk
          replace br := (put_other (i := 0) v1 (show w.heap.size + 1 ≠ ob by omega)).trans br
          replace bs := (put_other (i := 0) v1 (show sx ≠ ob by omega)).trans bs
          replace hO1 := own_setCell hO1 0 v1 (own_ne_block hO1 bo (by decide))
          replace hO2 := own_setCell hO2 0 v1 (own_ne_block hO2 bo (by decide))
          replace hB := below_set (i := 0) (v := v1) hB (show w.heap.size ≤ ob by omega)
          replace bo := Joins.block_setCell (i := 0) bo v1
          obtain ⟨B1, e1, rfl⟩ := own_form hO1
          show wpList _ _ _ _ _ _
          have cbs0 := Joins.cell_of_block bs 0
          have cbs1 := Joins.cell_of_block bs 1
          have zbs := size_of_block bs
          go_wp2_with fail
          all_goals (try (exfalso; omega))
          clear cbs0 cbs1 zbs
          go_roundw
          case rel =>
            refine ⟨j + 1, B1, e1, Am, cm, by omega, by go_num, bk, br, ?_, ?_, ?_, ?_, hB⟩
            · rw [HS8.out, HM8.out]; simpa using bo
            · rw [HS8.out]; simpa using hO1
            · rw [HM8.out]; simpa using hO2
            · rw [HS8.out, HM8.out]; simpa using hD
          case measure => simp [intOf]; omega
      · by_cases hm0 : 0 < z2
        · rw [if_neg hs0] at HS8
          rw [if_pos hm0] at HM8
          have hsx := size_of_block bo
          have bs := heap_alloc_new w101 (.cells #[.int .i64 z1, .int .i64 z2] 63)
          have HB := below_alloc w101 (.cells #[.int .i64 z1, .int .i64 z2] 63)
          have cbs0 := Joins.cell_of_block bs 0
          have cbs1 := Joins.cell_of_block bs 1
          have zbs := size_of_block bs
          go_wp2_with fail
          all_goals (try (exfalso; omega))
          generalize (w101.alloc (.cells #[.int .i64 z1, .int .i64 z2] 63)) = w102 at bs HB cbs0 cbs1 zbs ⊢
          replace bk := (HB.block _ (size_of_block bk)).trans bk
          replace br := (HB.block _ (size_of_block br)).trans br
          replace bo := (HB.block _ (size_of_block bo)).trans bo
          replace hO1 := own_later hO1 HB
          replace hO2 := own_later hO2 HB
          replace hB := below_then hB HB
          clear HB
          clear cbs0 cbs1 zbs
          generalize w101.heap.size = sx at bs hsx ⊢
          have hkW := HK.out.later hB
          obtain ⟨al, ad, aw, e9, hl, hd, _⟩ := hkW
          obtain ⟨rfl, rfl, rfl⟩ : .slice (some ⟨sb, so, none⟩) k.ls.length c1 = al ∧ .slice A2 k.ds.length c2 = ad ∧ .slice A3 k.ws.length c3 = aw := by simpa using e9
          obtain ⟨A', c', e8, _, hln, hat⟩ := hl.open_
          obtain ⟨rfl, rfl⟩ : (some ⟨sb, so, none⟩) = A' ∧ c1 = c' := by simpa using e8
          obtain ⟨sb', so', y, hAA, hsb, hy, ya, _, _, _⟩ := hat j hlt
          obtain ⟨rfl, rfl⟩ : sb = sb' ∧ so = so' := by simpa using hAA
          obtain rfl : x = y := by rw [HX.out] at hy; simpa using hy
          clear hat hl hd e8 e9 hln hy hAA
          refine wp_region_looseM [] [0, 1, 2, 3, 4, 5, 6, 7] (.one 8 .done) [] [] [9, 10, 11] [] [] (by kernel_rfl) (by kernel_rfl) (by intro c a d v w h; cases d <;> exact h) (by intro c a d v w h; cases d <;> exact h) rfl (fun r i h => by simp at h) ?_
          simp only [pick, List.filterMap_cons, List.filterMap_nil, List.getElem?_toArray, List.getElem?_cons_succ, List.getElem?_cons_zero]
          intro u103x2 hu
          replace ya := (hu.cell (p := ⟨sb, so + j * 4, none⟩) hsb).trans ya
          replace hsb := Nat.lt_of_lt_of_le hsb hu.size
          replace bk := (hu.block _ (size_of_block bk)).trans bk
          replace br := (hu.block _ (size_of_block br)).trans br
          replace bo := (hu.block _ (size_of_block bo)).trans bo
          replace bs := (hu.block _ (size_of_block bs)).trans bs
          replace hO1 := own_later hO1 hu
          replace hO2 := own_later hO2 hu
          replace hB := below_then hB hu
          clear hu
          have cbk0 := Joins.cell_of_block bk 0
          have cbk1 := Joins.cell_of_block bk 1
          have cbk2 := Joins.cell_of_block bk 2
          have cbk3 := Joins.cell_of_block bk 3
          have cbk4 := Joins.cell_of_block bk 4
          have zbk := size_of_block bk
          have cbo0 := Joins.cell_of_block bo 0
          have cbo1 := Joins.cell_of_block bo 1
          have cbo2 := Joins.cell_of_block bo 2
          have zbo := size_of_block bo
          have hcg : ∀ (g : Gr u103x2) b o, b < u103x2.heap.size → g.val.cell? ⟨b, o, none⟩ = u103x2.cell? ⟨b, o, none⟩ := fun g b o h => (bcell g.b).1 b o h
          iterate 8 (refine wpRel_step (fun K hK => ?_); go_simp; refine hK _ ?_; clear hK K)
          refine wpRel_nil fun V0 hb0 => ?_
          clear hcg ya hsb cbk0 cbk1 cbk2 cbk3 cbk4 zbk cbo0 cbo1 cbo2 zbo
          replace bk := (hb0.block _ (size_of_block bk)).trans bk
          replace br := (hb0.block _ (size_of_block br)).trans br
          replace bo := (hb0.block _ (size_of_block bo)).trans bo
          replace bs := (hb0.block _ (size_of_block bs)).trans bs
          replace hO1 := own_later hO1 hb0
          replace hO2 := own_later hO2 hb0
          replace hB := below_then hB hb0
          clear hb0
          refine wpTr_step rfl rfl fun K hK => ?_
          go_simp
          refine hK _ _ (below_alloc _ _) fun V1 hu1 => ?_
          clear hK K
          have yn := (hu1.block _ (by simp)).trans (heap_alloc_new V0 (.cells #[.int .i64 x.id] 3))
          have D1 := below_then (below_alloc V0 (.cells #[.int .i64 x.id] 3)) hu1
          have zn := size_of_block yn
          replace bk := (D1.block _ (size_of_block bk)).trans bk
          replace br := (D1.block _ (size_of_block br)).trans br
          replace bo := (D1.block _ (size_of_block bo)).trans bo
          replace bs := (D1.block _ (size_of_block bs)).trans bs
          replace hO1 := own_later hO1 D1
          replace hO2 := own_later hO2 D1
          replace hB := below_then hB D1
          clear D1 hu1
          show wpPure _ _ _ _
          intro ks hks _ _
          obtain rfl : ks = [] := List.length_eq_zero_iff.1 hks
          clear hks
          show wpList _ _ _ _ _ _
          simp only [deco]
          refine wpList_append_own_at _ rfl _ _ 27 rfl w.heap.size 3 i0 (.int .i64 0) 1 8 Tryz.underlying27 HI.out HI0.out HI1.out HI2.out rfl (by decide) _ _ _ rfl hO2 ⟨V0.heap.size, 0, none⟩ 1 1 [.int .i64 x.id] rfl rfl (one_cell yn) (one_oneCell rfl) ?c3 ?c4 ?c5 ?_
          case c3 => unfold maxLen; omega
          case c4 => omega
          case c5 => exact hB.size
          intro v2 w2' hown' hgrow _ hat
          obtain ⟨hk2, hD2⟩ := app_apart2 hO1 (apart_symm hD.out) hgrow hat
          replace bk := (hgrow.block _ (size_of_block bk) (Ne.symm (own_ne_block hO2 bk (by decide)))).trans bk
          replace br := (hgrow.block _ (size_of_block br) (Ne.symm (own_ne_block hO2 br (by decide)))).trans br
          replace bo := (hgrow.block _ (size_of_block bo) (Ne.symm (own_ne_block hO2 bo (by decide)))).trans bo
          replace bs := (hgrow.block _ (size_of_block bs) (Ne.symm (own_ne_block hO2 bs (by decide)))).trans bs
          replace hB := below_own hB hB.size hO2 hgrow
          replace hO1 := hk2
          replace hO2 : w2'.ownsRow w.heap.size 3 1 v2 (L2.length + 1) ((L2 ++ [x.id]).map (Value.int .i64)) := by rw [List.map_append]; exact hown'
          replace hD := Lib.hid (apart_symm hD2)
          clear hown' hgrow hat hk2 hD2 yn zn
          have f4 := Joins.unfrozen_of_block bo 1
          have s4 := Joins.cell_of_block bo 1
          have zo4 := size_of_block bo
          replace bk := (put_other (i := 1) v2 (show w.heap.size ≠ ob by omega)).trans bk
          replace br := (put_other (i := 1) v2 (show w.heap.size + 1 ≠ ob by omega)).trans br
          replace bs := (put_other (i := 1) v2 (show sx ≠ ob by omega)).trans bs
          replace hO1 := own_setCell hO1 1 v2 (own_ne_block hO1 bo (by decide))
          replace hO2 := own_setCell hO2 1 v2 (own_ne_block hO2 bo (by decide))
          replace hB := below_set (i := 1) (v := v2) hB (show w.heap.size ≤ ob by omega)
          replace bo := Joins.block_setCell (i := 1) bo v2
          obtain ⟨B2, e2, rfl⟩ := own_form hO2
          show wpList _ _ _ _ _ _
          go_wp2_with fail
          go_roundw
          case rel =>
            refine ⟨j + 1, Av, cv, B2, e2, by omega, by go_num, bk, br, ?_, ?_, ?_, ?_, hB⟩
            · rw [HS8.out, HM8.out]; simpa using bo
            · rw [HS8.out]; simpa using hO1
            · rw [HM8.out]; simpa using hO2
            · rw [HS8.out, HM8.out]; simpa using hD
          case measure => simp [intOf]; omega
        · rw [if_neg hs0] at HS8
          rw [if_neg hm0] at HM8
          have hsx := size_of_block bo
          have bs := heap_alloc_new w101 (.cells #[.int .i64 z1, .int .i64 z2] 63)
          have HB := below_alloc w101 (.cells #[.int .i64 z1, .int .i64 z2] 63)
          have cbs0 := Joins.cell_of_block bs 0
          have cbs1 := Joins.cell_of_block bs 1
          have zbs := size_of_block bs
          go_wp2_with fail
          all_goals (try (exfalso; omega))
          generalize (w101.alloc (.cells #[.int .i64 z1, .int .i64 z2] 63)) = w102 at bs HB cbs0 cbs1 zbs ⊢
          replace bk := (HB.block _ (size_of_block bk)).trans bk
          replace br := (HB.block _ (size_of_block br)).trans br
          replace bo := (HB.block _ (size_of_block bo)).trans bo
          replace hO1 := own_later hO1 HB
          replace hO2 := own_later hO2 HB
          replace hB := below_then hB HB
          clear HB
          clear cbs0 cbs1 zbs
          generalize w101.heap.size = sx at bs hsx ⊢
          go_roundw
          case rel =>
            refine ⟨j + 1, Av, cv, Am, cm, by omega, by go_num, bk, br, ?_, ?_, ?_, ?_, hB⟩
            · rw [HS8.out, HM8.out]; simpa using bo
            · rw [HS8.out]; simpa using hO1
            · rw [HM8.out]; simpa using hO2
            · rw [HS8.out, HM8.out]; simpa using hD
          case measure => simp [intOf]; omega
    · obtain rfl : j = k.ls.length := by omega
      rw [← HF9.out.1] at hO1 bo
      rw [← HF9.out.2] at hO2 bo
      obtain ⟨S9, hS9⟩ : ∃ l, l = sourceS k id := ⟨_, rfl⟩
      obtain ⟨M9, hM9⟩ : ∃ l, l = sourceM k id := ⟨_, rfl⟩
      rw [← hS9] at hO1 bo
      rw [← hM9] at hO2 bo
      have HS9 := Lib.hid hS9
      have HM9 := Lib.hid hM9
      clear hS9 hM9 HF9 hD
      have HPP := Lib.hid (fun jj : Nat => cell_setRow_same wr (w.heap.size + 1) jj _ #[.slice Av S9.length cv, .slice Am M9.length cm, .int .i64 0] _ _ br)
      have HBF := Lib.hid (below_setRow hB (show w.heap.size ≤ w.heap.size + 1 by omega) #[.slice Av S9.length cv, .slice Am M9.length cm, .int .i64 0])
      have HO1 := Lib.hid (own_setRowX hO1 br (by decide) #[.slice Av S9.length cv, .slice Am M9.length cm, .int .i64 0])
      have HO2 := Lib.hid (own_setRowX hO2 br (by decide) #[.slice Av S9.length cv, .slice Am M9.length cm, .int .i64 0])
      clear hO1 hO2
      have cbk0 := Joins.cell_of_block bk 0
      have cbk1 := Joins.cell_of_block bk 1
      have cbk2 := Joins.cell_of_block bk 2
      have cbk3 := Joins.cell_of_block bk 3
      have cbk4 := Joins.cell_of_block bk 4
      have zbk := size_of_block bk
      have cbo0 := Joins.cell_of_block bo 0
      have cbo1 := Joins.cell_of_block bo 1
      have cbo2 := Joins.cell_of_block bo 2
      have zbo := size_of_block bo
      go_wp2_with (first | (refine wpList_store_rowTo rfl 79 _ _ rfl rfl (w.heap.size + 1) #[.slice Av S9.length cv, .slice Am M9.length cm, .int .i64 0] rfl rfl 79 _ br (by kernel_rfl) rfl (by kernel_rfl) ?_))
      all_goals (try (exfalso; omega))
      refine bodyPost_ret (v := .agg #[.slice Av S9.length cv, .slice Am M9.length cm, .int .i64 0]) ?_ rfl ⟨.slice Av S9.length cv, .slice Am M9.length cm, by rw [HEE.out], ⟨by have h9 := HO1.out; rw [HS9.out] at h9 ⊢; exact h9, by have h9 := HO2.out; rw [HM9.out] at h9 ⊢; exact h9⟩, HBF.out⟩
      simp [results, Tryz.results50, go_sem, HPP.out]
theorem rSources_c (k : Kl) (v : Value) (id : Int) (w : World) (hk : Kiln w v k) : Calls Tryz.prog 50 #[v, .int .i64 id] w fun e w' => ∃ u1 u2, e = .returned (.agg #[u1, u2, .int .i64 (sourceE k id)]) ∧ (w'.ownsRow w.heap.size 3 1 u1 (sourceS k id).length ((sourceS k id).map (Value.int .i64)) ∧ w'.ownsRow w.heap.size 3 1 u2 (sourceM k id).length ((sourceM k id).map (Value.int .i64))) ∧ Below w.heap.size w w' := by
  by_cases hc : checkI k = 0
  · by_cases h1 : place k.ds id < 0
    · exact rSources_none k v id w hk hc h1
    · cases hcan : canB (tiesL k)
      · exact rSources_cant k v id w hk hc h1 hcan
      · exact rSources_ok k v id w hk hc h1 hcan
  · exact rSources_bad k v id w hk hc
set_option maxRecDepth 100000 in
set_option maxHeartbeats 4000000 in
theorem rSinks_bad (k : Kl) (v : Value) (id : Int) (w : World) (hk : Kiln w v k) (hc : checkI k ≠ 0) : Calls Tryz.prog 52 #[v, .int .i64 id] w fun e w' => ∃ u1 u2, e = .returned (.agg #[u1, u2, .int .i64 (sinkE k id)]) ∧ (w'.ownsRow w.heap.size 3 1 u1 (sinkS k id).length ((sinkS k id).map (Value.int .i64)) ∧ w'.ownsRow w.heap.size 3 1 u2 (sinkM k id).length ((sinkM k id).map (Value.int .i64))) ∧ Below w.heap.size w w' := by
  have HEE := Lib.hid (show sinkE k id = checkI k by unfold sinkE pairE; rw [if_pos hc, if_pos hc])
  have HSS := Lib.hid (show sinkS k id = [] ∧ sinkM k id = [] by unfold sinkS sinkM; rw [HEE.out, if_neg hc, if_neg hc]; exact ⟨rfl, rfl⟩)
  have d0 : (checkI k != 0) = true := by simpa using hc
  clear hc
  obtain ⟨A1, c1, A2, c2, A3, c3, rfl⟩ := kilnForm hk
  have HK := Lib.hid hk
  clear hk
  go_enter Tryz.func52, Tryz.ntmps52
  obtain ⟨bk, br, -, HB⟩ := two_new' w (.cells #[.int .i64 k.room, .int .i64 k.per, .slice A1 k.ls.length c1, .slice A2 k.ds.length c2, .slice A3 k.ws.length c3] 26) (.cells #[.slice none 0 0, .slice none 0 0, .int .i64 0] 79)
  have cbk0 := Joins.cell_of_block bk 0
  have cbk1 := Joins.cell_of_block bk 1
  have cbk2 := Joins.cell_of_block bk 2
  have cbk3 := Joins.cell_of_block bk 3
  have cbk4 := Joins.cell_of_block bk 4
  have zbk := size_of_block bk
  go_wp2_with fail
  generalize ((w.alloc (.cells #[.int .i64 k.room, .int .i64 k.per, .slice A1 k.ls.length c1, .slice A2 k.ds.length c2, .slice A3 k.ws.length c3] 26)).alloc (.cells #[.slice none 0 0, .slice none 0 0, .int .i64 0] 79)) = w1 at bk br HB cbk0 cbk1 cbk2 cbk3 cbk4 zbk ⊢
  have hB := HB
  clear HB
  refine (rcheck_c k _ w1 (HK.out.later hB)).mono ?_
  rintro e w2 ⟨rfl, hF⟩
  clear cbk0 cbk1 cbk2 cbk3 cbk4 zbk
  replace bk := (hF.block _ (size_of_block bk)).trans bk
  replace br := (hF.block _ (size_of_block br)).trans br
  replace hB := below_then hB hF
  clear hF
  have HPP := Lib.hid (fun j : Nat => cell_setRow_same w2 (w.heap.size + 1) j _ #[.slice none 0 0, .slice none 0 0, .int .i64 (checkI k)] _ _ br)
  have HBF := Lib.hid (below_setRow hB (show w.heap.size ≤ w.heap.size + 1 by omega) #[.slice none 0 0, .slice none 0 0, .int .i64 (checkI k)])
  go_wp2_with (first | (refine wpList_store_rowTo rfl 79 _ _ rfl rfl (w.heap.size + 1) #[.slice none 0 0, .slice none 0 0, .int .i64 (checkI k)] rfl rfl 79 _ br (by kernel_rfl) rfl (by kernel_rfl) ?_))
  all_goals (try (exfalso; omega))
  refine bodyPost_ret (v := .agg #[.slice none 0 0, .slice none 0 0, .int .i64 (checkI k)]) ?_ rfl ⟨_, _, by rw [HEE.out], ⟨by rw [HSS.out.1]; exact World.ownsRow_nil _ _ _ _, by rw [HSS.out.2]; exact World.ownsRow_nil _ _ _ _⟩, HBF.out⟩
  simp [results, Tryz.results52, go_sem, HPP.out]
set_option maxRecDepth 100000 in
set_option maxHeartbeats 4000000 in
theorem rSinks_none (k : Kl) (v : Value) (id : Int) (w : World) (hk : Kiln w v k) (hc : checkI k = 0) (h1 : place k.ls id < 0) : Calls Tryz.prog 52 #[v, .int .i64 id] w fun e w' => ∃ u1 u2, e = .returned (.agg #[u1, u2, .int .i64 (sinkE k id)]) ∧ (w'.ownsRow w.heap.size 3 1 u1 (sinkS k id).length ((sinkS k id).map (Value.int .i64)) ∧ w'.ownsRow w.heap.size 3 1 u2 (sinkM k id).length ((sinkM k id).map (Value.int .i64))) ∧ Below w.heap.size w w' := by
  have HEE := Lib.hid (show sinkE k id = 5 by rw [sink_is hc, if_pos h1])
  have HSS := Lib.hid (show sinkS k id = [] ∧ sinkM k id = [] by unfold sinkS sinkM; rw [HEE.out, if_neg (by omega), if_neg (by omega)]; exact ⟨rfl, rfl⟩)
  have yd := fun v W h => load_c k v id W h
  obtain ⟨pd, hpd⟩ : ∃ x, x = place k.ls id := ⟨_, rfl⟩
  rw [← hpd] at yd
  have YD := Lib.hid yd
  rw [← hpd] at h1
  clear yd hpd
  obtain ⟨A1, c1, A2, c2, A3, c3, rfl⟩ := kilnForm hk
  have HK := Lib.hid hk
  clear hk
  go_enter Tryz.func52, Tryz.ntmps52
  obtain ⟨bk, br, -, HB⟩ := two_new' w (.cells #[.int .i64 k.room, .int .i64 k.per, .slice A1 k.ls.length c1, .slice A2 k.ds.length c2, .slice A3 k.ws.length c3] 26) (.cells #[.slice none 0 0, .slice none 0 0, .int .i64 0] 79)
  have cbk0 := Joins.cell_of_block bk 0
  have cbk1 := Joins.cell_of_block bk 1
  have cbk2 := Joins.cell_of_block bk 2
  have cbk3 := Joins.cell_of_block bk 3
  have cbk4 := Joins.cell_of_block bk 4
  have zbk := size_of_block bk
  go_wp2_with fail
  generalize ((w.alloc (.cells #[.int .i64 k.room, .int .i64 k.per, .slice A1 k.ls.length c1, .slice A2 k.ds.length c2, .slice A3 k.ws.length c3] 26)).alloc (.cells #[.slice none 0 0, .slice none 0 0, .int .i64 0] 79)) = w1 at bk br HB cbk0 cbk1 cbk2 cbk3 cbk4 zbk ⊢
  have hB := HB
  clear HB
  refine (rcheck_c k _ w1 (HK.out.later hB)).mono ?_
  rintro e w2 ⟨rfl, hF⟩
  clear cbk0 cbk1 cbk2 cbk3 cbk4 zbk
  replace bk := (hF.block _ (size_of_block bk)).trans bk
  replace br := (hF.block _ (size_of_block br)).trans br
  replace hB := below_then hB hF
  clear hF
  rw [hc]
  clear hc
  have cbk0 := Joins.cell_of_block bk 0
  have cbk1 := Joins.cell_of_block bk 1
  have cbk2 := Joins.cell_of_block bk 2
  have cbk3 := Joins.cell_of_block bk 3
  have cbk4 := Joins.cell_of_block bk 4
  have zbk := size_of_block bk
  go_wp2_with fail
  refine (YD.out _ w2 (HK.out.later hB)).mono ?_
  rintro e w3 ⟨rfl, hF⟩
  clear cbk0 cbk1 cbk2 cbk3 cbk4 zbk
  replace bk := (hF.block _ (size_of_block bk)).trans bk
  replace br := (hF.block _ (size_of_block br)).trans br
  replace hB := below_then hB hF
  clear hF
  have HPP := Lib.hid (fun j : Nat => cell_setRow_same w3 (w.heap.size + 1) j _ #[.slice none 0 0, .slice none 0 0, .int .i64 5] _ _ br)
  have HBF := Lib.hid (below_setRow hB (show w.heap.size ≤ w.heap.size + 1 by omega) #[.slice none 0 0, .slice none 0 0, .int .i64 5])
  go_wp2_with (first | (refine wpList_store_rowTo rfl 79 _ _ rfl rfl (w.heap.size + 1) #[.slice none 0 0, .slice none 0 0, .int .i64 5] rfl rfl 79 _ br (by kernel_rfl) rfl (by kernel_rfl) ?_))
  all_goals (try (exfalso; omega))
  refine bodyPost_ret (v := .agg #[.slice none 0 0, .slice none 0 0, .int .i64 5]) ?_ rfl ⟨_, _, by rw [HEE.out], ⟨by rw [HSS.out.1]; exact World.ownsRow_nil _ _ _ _, by rw [HSS.out.2]; exact World.ownsRow_nil _ _ _ _⟩, HBF.out⟩
  simp [results, Tryz.results52, go_sem, HPP.out]
set_option maxRecDepth 100000 in
set_option maxHeartbeats 4000000 in
theorem rSinks_cant (k : Kl) (v : Value) (id : Int) (w : World) (hk : Kiln w v k) (hc : checkI k = 0) (h1 : ¬ place k.ls id < 0) (hcan : canB (tiesL k) = false) : Calls Tryz.prog 52 #[v, .int .i64 id] w fun e w' => ∃ u1 u2, e = .returned (.agg #[u1, u2, .int .i64 (sinkE k id)]) ∧ (w'.ownsRow w.heap.size 3 1 u1 (sinkS k id).length ((sinkS k id).map (Value.int .i64)) ∧ w'.ownsRow w.heap.size 3 1 u2 (sinkM k id).length ((sinkM k id).map (Value.int .i64))) ∧ Below w.heap.size w w' := by
  have HEE := Lib.hid (show sinkE k id = 9 by rw [sink_is hc, if_neg h1, if_neg (by simp [hcan])])
  have HSS := Lib.hid (show sinkS k id = [] ∧ sinkM k id = [] by unfold sinkS sinkM; rw [HEE.out, if_neg (by omega), if_neg (by omega)]; exact ⟨rfl, rfl⟩)
  have hR := right_of_check hc
  have yN := fun v W h => rCan_c k v W h hR
  rw [hcan] at yN
  have YN := Lib.hid yN
  have yd := fun v W h => load_c k v id W h
  obtain ⟨pd, hpd⟩ : ∃ x, x = place k.ls id := ⟨_, rfl⟩
  rw [← hpd] at yd
  have YD := Lib.hid yd
  rw [← hpd] at h1
  clear yd hpd hR yN hcan
  obtain ⟨A1, c1, A2, c2, A3, c3, rfl⟩ := kilnForm hk
  have HK := Lib.hid hk
  clear hk
  go_enter Tryz.func52, Tryz.ntmps52
  obtain ⟨bk, br, -, HB⟩ := two_new' w (.cells #[.int .i64 k.room, .int .i64 k.per, .slice A1 k.ls.length c1, .slice A2 k.ds.length c2, .slice A3 k.ws.length c3] 26) (.cells #[.slice none 0 0, .slice none 0 0, .int .i64 0] 79)
  have cbk0 := Joins.cell_of_block bk 0
  have cbk1 := Joins.cell_of_block bk 1
  have cbk2 := Joins.cell_of_block bk 2
  have cbk3 := Joins.cell_of_block bk 3
  have cbk4 := Joins.cell_of_block bk 4
  have zbk := size_of_block bk
  go_wp2_with fail
  generalize ((w.alloc (.cells #[.int .i64 k.room, .int .i64 k.per, .slice A1 k.ls.length c1, .slice A2 k.ds.length c2, .slice A3 k.ws.length c3] 26)).alloc (.cells #[.slice none 0 0, .slice none 0 0, .int .i64 0] 79)) = w1 at bk br HB cbk0 cbk1 cbk2 cbk3 cbk4 zbk ⊢
  have hB := HB
  clear HB
  refine (rcheck_c k _ w1 (HK.out.later hB)).mono ?_
  rintro e w2 ⟨rfl, hF⟩
  clear cbk0 cbk1 cbk2 cbk3 cbk4 zbk
  replace bk := (hF.block _ (size_of_block bk)).trans bk
  replace br := (hF.block _ (size_of_block br)).trans br
  replace hB := below_then hB hF
  clear hF
  rw [hc]
  clear hc
  have cbk0 := Joins.cell_of_block bk 0
  have cbk1 := Joins.cell_of_block bk 1
  have cbk2 := Joins.cell_of_block bk 2
  have cbk3 := Joins.cell_of_block bk 3
  have cbk4 := Joins.cell_of_block bk 4
  have zbk := size_of_block bk
  go_wp2_with fail
  refine (YD.out _ w2 (HK.out.later hB)).mono ?_
  rintro e w3 ⟨rfl, hF⟩
  clear cbk0 cbk1 cbk2 cbk3 cbk4 zbk
  replace bk := (hF.block _ (size_of_block bk)).trans bk
  replace br := (hF.block _ (size_of_block br)).trans br
  replace hB := below_then hB hF
  clear hF
  have cbk0 := Joins.cell_of_block bk 0
  have cbk1 := Joins.cell_of_block bk 1
  have cbk2 := Joins.cell_of_block bk 2
  have cbk3 := Joins.cell_of_block bk 3
  have cbk4 := Joins.cell_of_block bk 4
  have zbk := size_of_block bk
  go_wp2_with fail
  all_goals (try (exfalso; omega))
  refine (YN.out _ w3 (HK.out.later hB)).mono ?_
  rintro e w4 ⟨rfl, hF⟩
  clear cbk0 cbk1 cbk2 cbk3 cbk4 zbk
  replace bk := (hF.block _ (size_of_block bk)).trans bk
  replace br := (hF.block _ (size_of_block br)).trans br
  replace hB := below_then hB hF
  clear hF
  have HPP := Lib.hid (fun j : Nat => cell_setRow_same w4 (w.heap.size + 1) j _ #[.slice none 0 0, .slice none 0 0, .int .i64 9] _ _ br)
  have HBF := Lib.hid (below_setRow hB (show w.heap.size ≤ w.heap.size + 1 by omega) #[.slice none 0 0, .slice none 0 0, .int .i64 9])
  go_wp2_with (first | (refine wpList_store_rowTo rfl 79 _ _ rfl rfl (w.heap.size + 1) #[.slice none 0 0, .slice none 0 0, .int .i64 9] rfl rfl 79 _ br (by kernel_rfl) rfl (by kernel_rfl) ?_))
  all_goals (try (exfalso; omega))
  refine bodyPost_ret (v := .agg #[.slice none 0 0, .slice none 0 0, .int .i64 9]) ?_ rfl ⟨_, _, by rw [HEE.out], ⟨by rw [HSS.out.1]; exact World.ownsRow_nil _ _ _ _, by rw [HSS.out.2]; exact World.ownsRow_nil _ _ _ _⟩, HBF.out⟩
  simp [results, Tryz.results52, go_sem, HPP.out]
set_option maxRecDepth 100000 in
set_option maxHeartbeats 16000000 in
theorem rSinks_ok (k : Kl) (v : Value) (id : Int) (w : World) (hk : Kiln w v k) (hc : checkI k = 0) (h1 : ¬ place k.ls id < 0) (hcan : canB (tiesL k) = true) : Calls Tryz.prog 52 #[v, .int .i64 id] w fun e w' => ∃ u1 u2, e = .returned (.agg #[u1, u2, .int .i64 (sinkE k id)]) ∧ (w'.ownsRow w.heap.size 3 1 u1 (sinkS k id).length ((sinkS k id).map (Value.int .i64)) ∧ w'.ownsRow w.heap.size 3 1 u2 (sinkM k id).length ((sinkM k id).map (Value.int .i64))) ∧ Below w.heap.size w w' := by
  have HEE := Lib.hid (show sinkE k id = 0 by rw [sink_is hc, if_neg h1, if_pos hcan])
  have hR := right_of_check hc
  have yN := fun v W h => rCan_c k v W h hR
  rw [hcan] at yN
  have YN := Lib.hid yN
  have pr1 := place_range k.ls id
  have yd := fun v W h => load_c k v id W h
  obtain ⟨q, hq⟩ := Int.eq_ofNat_of_zero_le (show 0 ≤ place k.ls id by omega)
  rw [hq] at yd
  have YD := Lib.hid yd
  have HSS := Lib.hid (show sinkS k id = (sureL (tiesL k) k.ds k.ls.length (loadP q) k.ds.length) ∧ sinkM k id = (someL (tiesL k) k.ds k.ls.length (loadP q) k.ds.length) by unfold sinkS sinkM; rw [if_pos HEE.out, if_pos HEE.out, hq]; exact ⟨rfl, rfl⟩)
  have hqj : q < k.ls.length := by omega
  have n1 := hR.ls
  have n2 := hR.ds
  have YS := Lib.hid (fun (j : Nat) v W h (hj : j < k.ds.length) => (show Calls Tryz.prog 119 #[v, .int .i64 j, .int .i64 q] W (fun e w' => e = .returned (.agg #[.int .i64 (leastZ (tiesL k) ⟨markB k.ls.length (j : Int), markB k.ls.length ((j : Int) + 1)⟩ (loadP q)), .int .i64 (mostZ (tiesL k) ⟨markB k.ls.length (j : Int), markB k.ls.length ((j : Int) + 1)⟩ (loadP q))]) ∧ Below W.heap.size W w') by rw [leastZ_comm, mostZ_comm]; exact rshare_c k v j q W h hR hcan hj hqj))
  have HSN := Lib.hid (fun (j : Nat) (x : Rec) (hx : k.ds[j]? = some x) => sureL_snoc (l := tiesL k) (bs := k.ls.length) (p := (loadP q)) hx)
  have HMN := Lib.hid (fun (j : Nat) (x : Rec) (hx : k.ds[j]? = some x) => someL_snoc (l := tiesL k) (bs := k.ls.length) (p := (loadP q)) hx)
  have HSL := Lib.hid (fun j : Nat => sureL_len (tiesL k) k.ds k.ls.length (loadP q) j)
  have HML := Lib.hid (fun j : Nat => someL_len (tiesL k) k.ds k.ls.length (loadP q) j)
  have HZ := Lib.hid (show (sureL (tiesL k) k.ds k.ls.length (loadP q) 0) = [] ∧ (someL (tiesL k) k.ds k.ls.length (loadP q) 0) = [] from ⟨rfl, rfl⟩)
  obtain ⟨SF, hSF⟩ : ∃ f : Nat → List Int, f = fun j => (sureL (tiesL k) k.ds k.ls.length (loadP q) j) := ⟨_, rfl⟩
  obtain ⟨MF, hMF⟩ : ∃ f : Nat → List Int, f = fun j => (someL (tiesL k) k.ds k.ls.length (loadP q) j) := ⟨_, rfl⟩
  have HSE := Lib.hid (show ∀ j, (sureL (tiesL k) k.ds k.ls.length (loadP q) j) = SF j from fun j => by rw [hSF])
  have HME := Lib.hid (show ∀ j, (someL (tiesL k) k.ds k.ls.length (loadP q) j) = MF j from fun j => by rw [hMF])
  obtain ⟨LZ, hLZ⟩ : ∃ f : Nat → Int, f = fun j : Nat => leastZ (tiesL k) ⟨markB k.ls.length (j : Int), markB k.ls.length ((j : Int) + 1)⟩ (loadP q) := ⟨_, rfl⟩
  obtain ⟨MZ, hMZ⟩ : ∃ f : Nat → Int, f = fun j : Nat => mostZ (tiesL k) ⟨markB k.ls.length (j : Int), markB k.ls.length ((j : Int) + 1)⟩ (loadP q) := ⟨_, rfl⟩
  have HS9 : Hid (∀ (j : Nat) x, k.ds[j]? = some x → SF (j + 1) = SF j ++ if 0 < LZ j then [x.id] else []) := Lib.hid (fun j x hx => by rw [hSF, hLZ]; exact HSN.out j x hx)
  have HM9 : Hid (∀ (j : Nat) x, k.ds[j]? = some x → MF (j + 1) = MF j ++ if 0 < MZ j then [x.id] else []) := Lib.hid (fun j x hx => by rw [hMF, hMZ]; exact HMN.out j x hx)
  have HL9 : Hid (∀ j, (SF j).length ≤ j ∧ (MF j).length ≤ j) := Lib.hid (fun j => by rw [hSF, hMF]; exact ⟨HSL.out j, HML.out j⟩)
  have HZ9 : Hid (SF 0 = [] ∧ MF 0 = []) := Lib.hid (by rw [hSF, hMF]; exact HZ.out)
  have YS9 : Hid (∀ (j : Nat) v W, Kiln W v k → j < k.ds.length → Calls Tryz.prog 119 #[v, .int .i64 j, .int .i64 q] W (fun e w' => e = .returned (.agg #[.int .i64 (LZ j), .int .i64 (MZ j)]) ∧ Below W.heap.size W w')) := Lib.hid (fun j v W h hj => by rw [hLZ, hMZ]; exact YS.out j v W h hj)
  have HF9 : Hid (sinkS k id = SF k.ds.length ∧ sinkM k id = MF k.ds.length) := Lib.hid (by rw [hSF, hMF]; exact HSS.out)
  clear YS HSN HMN HSL HML HZ HSE HME HSS hLZ hMZ hSF hMF
  obtain ⟨i0, hi, hz0, hz1, hz2⟩ := info_parts Tryz.infoIntT
  have HI := Lib.hid hi
  have HI0 := Lib.hid hz0
  have HI1 := Lib.hid hz1
  have HI2 := Lib.hid hz2
  clear yd yN hR hcan pr1 hi hz0 hz1 hz2
  obtain ⟨A1, c1, A2, c2, A3, c3, rfl⟩ := kilnForm hk
  have HK := Lib.hid hk
  clear hk
  go_enter Tryz.func52, Tryz.ntmps52
  obtain ⟨bk, br, -, HB⟩ := two_new' w (.cells #[.int .i64 k.room, .int .i64 k.per, .slice A1 k.ls.length c1, .slice A2 k.ds.length c2, .slice A3 k.ws.length c3] 26) (.cells #[.slice none 0 0, .slice none 0 0, .int .i64 0] 79)
  have cbk0 := Joins.cell_of_block bk 0
  have cbk1 := Joins.cell_of_block bk 1
  have cbk2 := Joins.cell_of_block bk 2
  have cbk3 := Joins.cell_of_block bk 3
  have cbk4 := Joins.cell_of_block bk 4
  have zbk := size_of_block bk
  go_wp2_with fail
  generalize ((w.alloc (.cells #[.int .i64 k.room, .int .i64 k.per, .slice A1 k.ls.length c1, .slice A2 k.ds.length c2, .slice A3 k.ws.length c3] 26)).alloc (.cells #[.slice none 0 0, .slice none 0 0, .int .i64 0] 79)) = w1 at bk br HB cbk0 cbk1 cbk2 cbk3 cbk4 zbk ⊢
  have hB := HB
  clear HB
  refine (rcheck_c k _ w1 (HK.out.later hB)).mono ?_
  rintro e w2 ⟨rfl, hF⟩
  clear cbk0 cbk1 cbk2 cbk3 cbk4 zbk
  replace bk := (hF.block _ (size_of_block bk)).trans bk
  replace br := (hF.block _ (size_of_block br)).trans br
  replace hB := below_then hB hF
  clear hF
  rw [hc]
  clear hc h1
  have cbk0 := Joins.cell_of_block bk 0
  have cbk1 := Joins.cell_of_block bk 1
  have cbk2 := Joins.cell_of_block bk 2
  have cbk3 := Joins.cell_of_block bk 3
  have cbk4 := Joins.cell_of_block bk 4
  have zbk := size_of_block bk
  go_wp2_with fail
  refine (YD.out _ w2 (HK.out.later hB)).mono ?_
  rintro e w3 ⟨rfl, hF⟩
  clear cbk0 cbk1 cbk2 cbk3 cbk4 zbk
  replace bk := (hF.block _ (size_of_block bk)).trans bk
  replace br := (hF.block _ (size_of_block br)).trans br
  replace hB := below_then hB hF
  clear hF
  skip
  have cbk0 := Joins.cell_of_block bk 0
  have cbk1 := Joins.cell_of_block bk 1
  have cbk2 := Joins.cell_of_block bk 2
  have cbk3 := Joins.cell_of_block bk 3
  have cbk4 := Joins.cell_of_block bk 4
  have zbk := size_of_block bk
  go_wp2_with fail
  all_goals (try (exfalso; omega))
  refine (YN.out _ w3 (HK.out.later hB)).mono ?_
  rintro e w4 ⟨rfl, hF⟩
  clear cbk0 cbk1 cbk2 cbk3 cbk4 zbk
  replace bk := (hF.block _ (size_of_block bk)).trans bk
  replace br := (hF.block _ (size_of_block br)).trans br
  replace hB := below_then hB hF
  clear hF
  have hbr0 := size_of_block br
  have bo0 := heap_alloc_new w4 (.cells #[.slice none 0 0, .slice none 0 0, .int .i64 0] 79)
  have HB := below_alloc w4 (.cells #[.slice none 0 0, .slice none 0 0, .int .i64 0] 79)
  go_wp2_with fail
  generalize w4.alloc _ = wA at bo0 HB ⊢
  replace bk := (HB.block _ (size_of_block bk)).trans bk
  replace br := (HB.block _ (size_of_block br)).trans br
  replace hB := below_then hB HB
  have hob1 : w.heap.size + 1 < w4.heap.size := hbr0
  generalize w4.heap.size = ob at bo0 hob1 ⊢
  clear HB hbr0
  have BK := Lib.hid bk
  have BR := Lib.hid br
  clear bk br
  go_loopw [9] (fun i wr => ∃ (j : Nat) (Av : Option Addr) (cv : Nat) (Am : Option Addr) (cm : Nat), j ≤ k.ds.length ∧ i = .int .i64 j ∧ wr.heap[w.heap.size]? = some (.cells #[.int .i64 k.room, .int .i64 k.per, .slice A1 k.ls.length c1, .slice A2 k.ds.length c2, .slice A3 k.ws.length c3] 26) ∧ wr.heap[w.heap.size + 1]? = some (.cells #[.slice none 0 0, .slice none 0 0, .int .i64 0] 79) ∧ wr.heap[ob]? = some (.cells #[.slice Av (SF j).length cv, .slice Am (MF j).length cm, .int .i64 0] 79) ∧ wr.ownsRow w.heap.size 3 1 (.slice Av (SF j).length cv) (SF j).length ((SF j).map (Value.int .i64)) ∧ wr.ownsRow w.heap.size 3 1 (.slice Am (MF j).length cm) (MF j).length ((MF j).map (Value.int .i64)) ∧ Hid (Apart (.slice Av (SF j).length cv) (.slice Am (MF j).length cm)) ∧ Below w.heap.size w wr) (fun i _ => k.ds.length - (intOf i).toNat)
  case atStart => exact ⟨0, none, 0, none, 0, Nat.zero_le _, rfl, BK.out, BR.out, by rw [HZ9.out.1, HZ9.out.2]; exact bo0, by rw [HZ9.out.1]; exact World.ownsRow_nil _ _ _ _, by rw [HZ9.out.2]; exact World.ownsRow_nil _ _ _ _, Lib.hid (fun g h => by cases h), hB⟩
  case round =>
    clear bo0 hB BK BR
    obtain ⟨j, Av, cv, Am, cm, hj, rfl, bk, br, bo, hO1, hO2, hD, hB⟩ := hrel
    by_cases hlt : j < k.ds.length
    · obtain ⟨x, hx⟩ : ∃ x, k.ds[j]? = some x := ⟨_, List.getElem?_eq_getElem hlt⟩
      have hs9 := HS9.out j x hx
      have hm9 := HM9.out j x hx
      have HX := Lib.hid hx
      clear hx
      obtain ⟨hl1, hl2⟩ := HL9.out j
      obtain ⟨L1, hL1⟩ : ∃ l, l = SF j := ⟨_, rfl⟩
      obtain ⟨L2, hL2⟩ : ∃ l, l = MF j := ⟨_, rfl⟩
      rw [← hL1] at hO1 hD bo hs9 hl1
      rw [← hL2] at hO2 hD bo hm9 hl2
      have y9 := fun v W h => YS9.out j v W h hlt
      obtain ⟨z1, hz1⟩ : ∃ z, z = LZ j := ⟨_, rfl⟩
      obtain ⟨z2, hz2⟩ : ∃ z, z = MZ j := ⟨_, rfl⟩
      rw [← hz1] at y9 hs9
      rw [← hz2] at y9 hm9
      have Y9 := Lib.hid y9
      have HS8 := Lib.hid hs9
      have HM8 := Lib.hid hm9
      clear hL1 hL2 hz1 hz2 y9 hs9 hm9
      have hkW := HK.out.later hB
      obtain ⟨al, ad, aw, e9, hl, hd, _⟩ := hkW
      obtain ⟨rfl, rfl, rfl⟩ : .slice A1 k.ls.length c1 = al ∧ .slice A2 k.ds.length c2 = ad ∧ .slice A3 k.ws.length c3 = aw := by simpa using e9
      obtain ⟨A', c', e8, _, hln, hat⟩ := hd.open_
      obtain ⟨rfl, rfl⟩ : A2 = A' ∧ c2 = c' := by simpa using e8
      obtain ⟨sb, so, y, rfl, -, -, -, -, -, -⟩ := hat j hlt
      clear hat hl hd e8 e9 hln
      have cbk0 := Joins.cell_of_block bk 0
      have cbk1 := Joins.cell_of_block bk 1
      have cbk2 := Joins.cell_of_block bk 2
      have cbk3 := Joins.cell_of_block bk 3
      have cbk4 := Joins.cell_of_block bk 4
      have zbk := size_of_block bk
      go_wp2_with fail
      refine (Y9.out _ wr (HK.out.later hB)).mono ?_
      rintro e w101 ⟨rfl, hF⟩
      clear cbk0 cbk1 cbk2 cbk3 cbk4 zbk
      replace bk := (hF.block _ (size_of_block bk)).trans bk
      replace br := (hF.block _ (size_of_block br)).trans br
      replace bo := (hF.block _ (size_of_block bo)).trans bo
      replace hO1 := own_later hO1 hF
      replace hO2 := own_later hO2 hF
      replace hB := below_then hB hF
      clear hF
      by_cases hs0 : 0 < z1
      · by_cases hm0 : 0 < z2
        · rw [if_pos hs0] at HS8
          rw [if_pos hm0] at HM8
          have hsx := size_of_block bo
          have bs := heap_alloc_new w101 (.cells #[.int .i64 z1, .int .i64 z2] 63)
          have HB := below_alloc w101 (.cells #[.int .i64 z1, .int .i64 z2] 63)
          have cbs0 := Joins.cell_of_block bs 0
          have cbs1 := Joins.cell_of_block bs 1
          have zbs := size_of_block bs
          go_wp2_with fail
          all_goals (try (exfalso; omega))
          generalize (w101.alloc (.cells #[.int .i64 z1, .int .i64 z2] 63)) = w102 at bs HB cbs0 cbs1 zbs ⊢
          replace bk := (HB.block _ (size_of_block bk)).trans bk
          replace br := (HB.block _ (size_of_block br)).trans br
          replace bo := (HB.block _ (size_of_block bo)).trans bo
          replace hO1 := own_later hO1 HB
          replace hO2 := own_later hO2 HB
          replace hB := below_then hB HB
          clear HB
          clear cbs0 cbs1 zbs
          generalize w101.heap.size = sx at bs hsx ⊢
          have hkW := HK.out.later hB
          obtain ⟨al, ad, aw, e9, hl, hd, _⟩ := hkW
          obtain ⟨rfl, rfl, rfl⟩ : .slice A1 k.ls.length c1 = al ∧ .slice (some ⟨sb, so, none⟩) k.ds.length c2 = ad ∧ .slice A3 k.ws.length c3 = aw := by simpa using e9
          obtain ⟨A', c', e8, _, hln, hat⟩ := hd.open_
          obtain ⟨rfl, rfl⟩ : (some ⟨sb, so, none⟩) = A' ∧ c2 = c' := by simpa using e8
          obtain ⟨sb', so', y, hAA, hsb, hy, ya, _, _, _⟩ := hat j hlt
          obtain ⟨rfl, rfl⟩ : sb = sb' ∧ so = so' := by simpa using hAA
          obtain rfl : x = y := by rw [HX.out] at hy; simpa using hy
          clear hat hl hd e8 e9 hln hy hAA
          refine wp_region_looseM [] [0, 1, 2, 3, 4, 5, 6, 7] (.one 8 .done) [] [] [9, 10, 11] [] [] (by kernel_rfl) (by kernel_rfl) (by intro c a d v w h; cases d <;> exact h) (by intro c a d v w h; cases d <;> exact h) rfl (fun r i h => by simp at h) ?_
          simp only [pick, List.filterMap_cons, List.filterMap_nil, List.getElem?_toArray, List.getElem?_cons_succ, List.getElem?_cons_zero]
          intro u103x1 hu
          replace ya := (hu.cell (p := ⟨sb, so + j * 4, none⟩) hsb).trans ya
          replace hsb := Nat.lt_of_lt_of_le hsb hu.size
          replace bk := (hu.block _ (size_of_block bk)).trans bk
          replace br := (hu.block _ (size_of_block br)).trans br
          replace bo := (hu.block _ (size_of_block bo)).trans bo
          replace bs := (hu.block _ (size_of_block bs)).trans bs
          replace hO1 := own_later hO1 hu
          replace hO2 := own_later hO2 hu
          replace hB := below_then hB hu
          clear hu
          have cbk0 := Joins.cell_of_block bk 0
          have cbk1 := Joins.cell_of_block bk 1
          have cbk2 := Joins.cell_of_block bk 2
          have cbk3 := Joins.cell_of_block bk 3
          have cbk4 := Joins.cell_of_block bk 4
          have zbk := size_of_block bk
          have cbo0 := Joins.cell_of_block bo 0
          have cbo1 := Joins.cell_of_block bo 1
          have cbo2 := Joins.cell_of_block bo 2
          have zbo := size_of_block bo
          have hcg : ∀ (g : Gr u103x1) b o, b < u103x1.heap.size → g.val.cell? ⟨b, o, none⟩ = u103x1.cell? ⟨b, o, none⟩ := fun g b o h => (bcell g.b).1 b o h
          iterate 8 (refine wpRel_step (fun K hK => ?_); go_simp; refine hK _ ?_; clear hK K)
          refine wpRel_nil fun V0 hb0 => ?_
          clear hcg ya hsb cbk0 cbk1 cbk2 cbk3 cbk4 zbk cbo0 cbo1 cbo2 zbo
          replace bk := (hb0.block _ (size_of_block bk)).trans bk
          replace br := (hb0.block _ (size_of_block br)).trans br
          replace bo := (hb0.block _ (size_of_block bo)).trans bo
          replace bs := (hb0.block _ (size_of_block bs)).trans bs
          replace hO1 := own_later hO1 hb0
          replace hO2 := own_later hO2 hb0
          replace hB := below_then hB hb0
          clear hb0
          refine wpTr_step rfl rfl fun K hK => ?_
          go_simp
          refine hK _ _ (below_alloc _ _) fun V1 hu1 => ?_
          clear hK K
          have yn := (hu1.block _ (by simp)).trans (heap_alloc_new V0 (.cells #[.int .i64 x.id] 3))
          have D1 := below_then (below_alloc V0 (.cells #[.int .i64 x.id] 3)) hu1
          have zn := size_of_block yn
          replace bk := (D1.block _ (size_of_block bk)).trans bk
          replace br := (D1.block _ (size_of_block br)).trans br
          replace bo := (D1.block _ (size_of_block bo)).trans bo
          replace bs := (D1.block _ (size_of_block bs)).trans bs
          replace hO1 := own_later hO1 D1
          replace hO2 := own_later hO2 D1
          replace hB := below_then hB D1
          clear D1 hu1
          show wpPure _ _ _ _
          intro ks hks _ _
          obtain rfl : ks = [] := List.length_eq_zero_iff.1 hks
          clear hks
          show wpList _ _ _ _ _ _
          simp only [deco]
          refine wpList_append_own_at _ rfl _ _ 27 rfl w.heap.size 3 i0 (.int .i64 0) 1 8 Tryz.underlying27 HI.out HI0.out HI1.out HI2.out rfl (by decide) _ _ _ rfl hO1 ⟨V0.heap.size, 0, none⟩ 1 1 [.int .i64 x.id] rfl rfl (one_cell yn) (one_oneCell rfl) ?c3 ?c4 ?c5 ?_
          case c3 => unfold maxLen; omega
          case c4 => omega
          case c5 => exact hB.size
          intro v1 w1' hown' hgrow _ hat
          obtain ⟨hk2, hD2⟩ := app_apart2 hO2 hD.out hgrow hat
          replace bk := (hgrow.block _ (size_of_block bk) (Ne.symm (own_ne_block hO1 bk (by decide)))).trans bk
          replace br := (hgrow.block _ (size_of_block br) (Ne.symm (own_ne_block hO1 br (by decide)))).trans br
          replace bo := (hgrow.block _ (size_of_block bo) (Ne.symm (own_ne_block hO1 bo (by decide)))).trans bo
          replace bs := (hgrow.block _ (size_of_block bs) (Ne.symm (own_ne_block hO1 bs (by decide)))).trans bs
          replace hB := below_own hB hB.size hO1 hgrow
          replace hO2 := hk2
          replace hO1 : w1'.ownsRow w.heap.size 3 1 v1 (L1.length + 1) ((L1 ++ [x.id]).map (Value.int .i64)) := by rw [List.map_append]; exact hown'
          replace hD := Lib.hid hD2
          clear hown' hgrow hat hk2 hD2 yn zn
          have f4 := Joins.unfrozen_of_block bo 0
          have s4 := Joins.cell_of_block bo 0
          have zo4 := size_of_block bo
          replace bk := (put_other (i := 0) v1 (show w.heap.size ≠ ob by omega)).trans bk
          replace br := (put_other (i := 0) v1 (show w.heap.size + 1 ≠ ob by omega)).trans br
          replace bs := (put_other (i := 0) v1 (show sx ≠ ob by omega)).trans bs
          replace hO1 := own_setCell hO1 0 v1 (own_ne_block hO1 bo (by decide))
          replace hO2 := own_setCell hO2 0 v1 (own_ne_block hO2 bo (by decide))
          replace hB := below_set (i := 0) (v := v1) hB (show w.heap.size ≤ ob by omega)
          replace bo := Joins.block_setCell (i := 0) bo v1
          obtain ⟨B1, e1, rfl⟩ := own_form hO1
          show wpList _ _ _ _ _ _
          have cbs0 := Joins.cell_of_block bs 0
          have cbs1 := Joins.cell_of_block bs 1
          have zbs := size_of_block bs
          go_wp2_with fail
          all_goals (try (exfalso; omega))
          clear cbs0 cbs1 zbs
          have hkW := HK.out.later hB
          obtain ⟨al, ad, aw, e9, hl, hd, _⟩ := hkW
          obtain ⟨rfl, rfl, rfl⟩ : .slice A1 k.ls.length c1 = al ∧ .slice (some ⟨sb, so, none⟩) k.ds.length c2 = ad ∧ .slice A3 k.ws.length c3 = aw := by simpa using e9
          obtain ⟨A', c', e8, _, hln, hat⟩ := hd.open_
          obtain ⟨rfl, rfl⟩ : (some ⟨sb, so, none⟩) = A' ∧ c2 = c' := by simpa using e8
          obtain ⟨sb', so', y, hAA, hsb, hy, ya, _, _, _⟩ := hat j hlt
          obtain ⟨rfl, rfl⟩ : sb = sb' ∧ so = so' := by simpa using hAA
          obtain rfl : x = y := by rw [HX.out] at hy; simpa using hy
          clear hat hl hd e8 e9 hln hy hAA
          refine wp_region_looseM [] [0, 1, 2, 3, 4, 5, 6, 7] (.one 8 .done) [] [] [9, 10, 11] [] [] (by kernel_rfl) (by kernel_rfl) (by intro c a d v w h; cases d <;> exact h) (by intro c a d v w h; cases d <;> exact h) rfl (fun r i h => by simp at h) ?_
          simp only [pick, List.filterMap_cons, List.filterMap_nil, List.getElem?_toArray, List.getElem?_cons_succ, List.getElem?_cons_zero]
          intro u104x2 hu
          replace ya := (hu.cell (p := ⟨sb, so + j * 4, none⟩) hsb).trans ya
          replace hsb := Nat.lt_of_lt_of_le hsb hu.size
          replace bk := (hu.block _ (size_of_block bk)).trans bk
          replace br := (hu.block _ (size_of_block br)).trans br
          replace bo := (hu.block _ (size_of_block bo)).trans bo
          replace bs := (hu.block _ (size_of_block bs)).trans bs
          replace hO1 := own_later hO1 hu
          replace hO2 := own_later hO2 hu
          replace hB := below_then hB hu
          clear hu
          have cbk0 := Joins.cell_of_block bk 0
          have cbk1 := Joins.cell_of_block bk 1
          have cbk2 := Joins.cell_of_block bk 2
          have cbk3 := Joins.cell_of_block bk 3
          have cbk4 := Joins.cell_of_block bk 4
          have zbk := size_of_block bk
          have cbo0 := Joins.cell_of_block bo 0
          have cbo1 := Joins.cell_of_block bo 1
          have cbo2 := Joins.cell_of_block bo 2
          have zbo := size_of_block bo
          have hcg : ∀ (g : Gr u104x2) b o, b < u104x2.heap.size → g.val.cell? ⟨b, o, none⟩ = u104x2.cell? ⟨b, o, none⟩ := fun g b o h => (bcell g.b).1 b o h
          iterate 8 (refine wpRel_step (fun K hK => ?_); go_simp; refine hK _ ?_; clear hK K)
          refine wpRel_nil fun V0 hb0 => ?_
          clear hcg ya hsb cbk0 cbk1 cbk2 cbk3 cbk4 zbk cbo0 cbo1 cbo2 zbo
          replace bk := (hb0.block _ (size_of_block bk)).trans bk
          replace br := (hb0.block _ (size_of_block br)).trans br
          replace bo := (hb0.block _ (size_of_block bo)).trans bo
          replace bs := (hb0.block _ (size_of_block bs)).trans bs
          replace hO1 := own_later hO1 hb0
          replace hO2 := own_later hO2 hb0
          replace hB := below_then hB hb0
          clear hb0
          refine wpTr_step rfl rfl fun K hK => ?_
          go_simp
          refine hK _ _ (below_alloc _ _) fun V1 hu1 => ?_
          clear hK K
          have yn := (hu1.block _ (by simp)).trans (heap_alloc_new V0 (.cells #[.int .i64 x.id] 3))
          have D1 := below_then (below_alloc V0 (.cells #[.int .i64 x.id] 3)) hu1
          have zn := size_of_block yn
          replace bk := (D1.block _ (size_of_block bk)).trans bk
          replace br := (D1.block _ (size_of_block br)).trans br
          replace bo := (D1.block _ (size_of_block bo)).trans bo
          replace bs := (D1.block _ (size_of_block bs)).trans bs
          replace hO1 := own_later hO1 D1
          replace hO2 := own_later hO2 D1
          replace hB := below_then hB D1
          clear D1 hu1
          show wpPure _ _ _ _
          intro ks hks _ _
          obtain rfl : ks = [] := List.length_eq_zero_iff.1 hks
          clear hks
          show wpList _ _ _ _ _ _
          simp only [deco]
          refine wpList_append_own_at _ rfl _ _ 27 rfl w.heap.size 3 i0 (.int .i64 0) 1 8 Tryz.underlying27 HI.out HI0.out HI1.out HI2.out rfl (by decide) _ _ _ rfl hO2 ⟨V0.heap.size, 0, none⟩ 1 1 [.int .i64 x.id] rfl rfl (one_cell yn) (one_oneCell rfl) ?c3 ?c4 ?c5 ?_
          case c3 => unfold maxLen; omega
          case c4 => omega
          case c5 => exact hB.size
          intro v2 w2' hown' hgrow _ hat
          obtain ⟨hk2, hD2⟩ := app_apart2 hO1 (apart_symm hD.out) hgrow hat
          replace bk := (hgrow.block _ (size_of_block bk) (Ne.symm (own_ne_block hO2 bk (by decide)))).trans bk
          replace br := (hgrow.block _ (size_of_block br) (Ne.symm (own_ne_block hO2 br (by decide)))).trans br
          replace bo := (hgrow.block _ (size_of_block bo) (Ne.symm (own_ne_block hO2 bo (by decide)))).trans bo
          replace bs := (hgrow.block _ (size_of_block bs) (Ne.symm (own_ne_block hO2 bs (by decide)))).trans bs
          replace hB := below_own hB hB.size hO2 hgrow
          replace hO1 := hk2
          replace hO2 : w2'.ownsRow w.heap.size 3 1 v2 (L2.length + 1) ((L2 ++ [x.id]).map (Value.int .i64)) := by rw [List.map_append]; exact hown'
          replace hD := Lib.hid (apart_symm hD2)
          clear hown' hgrow hat hk2 hD2 yn zn
          have f4 := Joins.unfrozen_of_block bo 1
          have s4 := Joins.cell_of_block bo 1
          have zo4 := size_of_block bo
          replace bk := (put_other (i := 1) v2 (show w.heap.size ≠ ob by omega)).trans bk
          replace br := (put_other (i := 1) v2 (show w.heap.size + 1 ≠ ob by omega)).trans br
          replace bs := (put_other (i := 1) v2 (show sx ≠ ob by omega)).trans bs
          replace hO1 := own_setCell hO1 1 v2 (own_ne_block hO1 bo (by decide))
          replace hO2 := own_setCell hO2 1 v2 (own_ne_block hO2 bo (by decide))
          replace hB := below_set (i := 1) (v := v2) hB (show w.heap.size ≤ ob by omega)
          replace bo := Joins.block_setCell (i := 1) bo v2
          obtain ⟨B2, e2, rfl⟩ := own_form hO2
          show wpList _ _ _ _ _ _
          go_wp2_with fail
          go_roundw
          case rel =>
            refine ⟨j + 1, B1, e1, B2, e2, by omega, by go_num, bk, br, ?_, ?_, ?_, ?_, hB⟩
            · rw [HS8.out, HM8.out]; simpa using bo
            · rw [HS8.out]; simpa using hO1
            · rw [HM8.out]; simpa using hO2
            · rw [HS8.out, HM8.out]; simpa using hD
          case measure => simp [intOf]; omega
        · rw [if_pos hs0] at HS8
          rw [if_neg hm0] at HM8
          have hsx := size_of_block bo
          have bs := heap_alloc_new w101 (.cells #[.int .i64 z1, .int .i64 z2] 63)
          have HB := below_alloc w101 (.cells #[.int .i64 z1, .int .i64 z2] 63)
          have cbs0 := Joins.cell_of_block bs 0
          have cbs1 := Joins.cell_of_block bs 1
          have zbs := size_of_block bs
          go_wp2_with fail
          all_goals (try (exfalso; omega))
          generalize (w101.alloc (.cells #[.int .i64 z1, .int .i64 z2] 63)) = w102 at bs HB cbs0 cbs1 zbs ⊢
          replace bk := (HB.block _ (size_of_block bk)).trans bk
          replace br := (HB.block _ (size_of_block br)).trans br
          replace bo := (HB.block _ (size_of_block bo)).trans bo
          replace hO1 := own_later hO1 HB
          replace hO2 := own_later hO2 HB
          replace hB := below_then hB HB
          clear HB
          clear cbs0 cbs1 zbs
          generalize w101.heap.size = sx at bs hsx ⊢
          have hkW := HK.out.later hB
          obtain ⟨al, ad, aw, e9, hl, hd, _⟩ := hkW
          obtain ⟨rfl, rfl, rfl⟩ : .slice A1 k.ls.length c1 = al ∧ .slice (some ⟨sb, so, none⟩) k.ds.length c2 = ad ∧ .slice A3 k.ws.length c3 = aw := by simpa using e9
          obtain ⟨A', c', e8, _, hln, hat⟩ := hd.open_
          obtain ⟨rfl, rfl⟩ : (some ⟨sb, so, none⟩) = A' ∧ c2 = c' := by simpa using e8
          obtain ⟨sb', so', y, hAA, hsb, hy, ya, _, _, _⟩ := hat j hlt
          obtain ⟨rfl, rfl⟩ : sb = sb' ∧ so = so' := by simpa using hAA
          obtain rfl : x = y := by rw [HX.out] at hy; simpa using hy
          clear hat hl hd e8 e9 hln hy hAA
          refine wp_region_looseM [] [0, 1, 2, 3, 4, 5, 6, 7] (.one 8 .done) [] [] [9, 10, 11] [] [] (by kernel_rfl) (by kernel_rfl) (by intro c a d v w h; cases d <;> exact h) (by intro c a d v w h; cases d <;> exact h) rfl (fun r i h => by simp at h) ?_
          simp only [pick, List.filterMap_cons, List.filterMap_nil, List.getElem?_toArray, List.getElem?_cons_succ, List.getElem?_cons_zero]
          intro u103x1 hu
          replace ya := (hu.cell (p := ⟨sb, so + j * 4, none⟩) hsb).trans ya
          replace hsb := Nat.lt_of_lt_of_le hsb hu.size
          replace bk := (hu.block _ (size_of_block bk)).trans bk
          replace br := (hu.block _ (size_of_block br)).trans br
          replace bo := (hu.block _ (size_of_block bo)).trans bo
          replace bs := (hu.block _ (size_of_block bs)).trans bs
          replace hO1 := own_later hO1 hu
          replace hO2 := own_later hO2 hu
          replace hB := below_then hB hu
          clear hu
          have cbk0 := Joins.cell_of_block bk 0
          have cbk1 := Joins.cell_of_block bk 1
          have cbk2 := Joins.cell_of_block bk 2
          have cbk3 := Joins.cell_of_block bk 3
          have cbk4 := Joins.cell_of_block bk 4
          have zbk := size_of_block bk
          have cbo0 := Joins.cell_of_block bo 0
          have cbo1 := Joins.cell_of_block bo 1
          have cbo2 := Joins.cell_of_block bo 2
          have zbo := size_of_block bo
          have hcg : ∀ (g : Gr u103x1) b o, b < u103x1.heap.size → g.val.cell? ⟨b, o, none⟩ = u103x1.cell? ⟨b, o, none⟩ := fun g b o h => (bcell g.b).1 b o h
          iterate 8 (refine wpRel_step (fun K hK => ?_); go_simp; refine hK _ ?_; clear hK K)
          refine wpRel_nil fun V0 hb0 => ?_
          clear hcg ya hsb cbk0 cbk1 cbk2 cbk3 cbk4 zbk cbo0 cbo1 cbo2 zbo
          replace bk := (hb0.block _ (size_of_block bk)).trans bk
          replace br := (hb0.block _ (size_of_block br)).trans br
          replace bo := (hb0.block _ (size_of_block bo)).trans bo
          replace bs := (hb0.block _ (size_of_block bs)).trans bs
          replace hO1 := own_later hO1 hb0
          replace hO2 := own_later hO2 hb0
          replace hB := below_then hB hb0
          clear hb0
          refine wpTr_step rfl rfl fun K hK => ?_
          go_simp
          refine hK _ _ (below_alloc _ _) fun V1 hu1 => ?_
          clear hK K
          have yn := (hu1.block _ (by simp)).trans (heap_alloc_new V0 (.cells #[.int .i64 x.id] 3))
          have D1 := below_then (below_alloc V0 (.cells #[.int .i64 x.id] 3)) hu1
          have zn := size_of_block yn
          replace bk := (D1.block _ (size_of_block bk)).trans bk
          replace br := (D1.block _ (size_of_block br)).trans br
          replace bo := (D1.block _ (size_of_block bo)).trans bo
          replace bs := (D1.block _ (size_of_block bs)).trans bs
          replace hO1 := own_later hO1 D1
          replace hO2 := own_later hO2 D1
          replace hB := below_then hB D1
          clear D1 hu1
          show wpPure _ _ _ _
          intro ks hks _ _
          obtain rfl : ks = [] := List.length_eq_zero_iff.1 hks
          clear hks
          show wpList _ _ _ _ _ _
          simp only [deco]
          refine wpList_append_own_at _ rfl _ _ 27 rfl w.heap.size 3 i0 (.int .i64 0) 1 8 Tryz.underlying27 HI.out HI0.out HI1.out HI2.out rfl (by decide) _ _ _ rfl hO1 ⟨V0.heap.size, 0, none⟩ 1 1 [.int .i64 x.id] rfl rfl (one_cell yn) (one_oneCell rfl) ?c3 ?c4 ?c5 ?_
          case c3 => unfold maxLen; omega
          case c4 => omega
          case c5 => exact hB.size
          intro v1 w1' hown' hgrow _ hat
          obtain ⟨hk2, hD2⟩ := app_apart2 hO2 hD.out hgrow hat
          replace bk := (hgrow.block _ (size_of_block bk) (Ne.symm (own_ne_block hO1 bk (by decide)))).trans bk
          replace br := (hgrow.block _ (size_of_block br) (Ne.symm (own_ne_block hO1 br (by decide)))).trans br
          replace bo := (hgrow.block _ (size_of_block bo) (Ne.symm (own_ne_block hO1 bo (by decide)))).trans bo
          replace bs := (hgrow.block _ (size_of_block bs) (Ne.symm (own_ne_block hO1 bs (by decide)))).trans bs
          replace hB := below_own hB hB.size hO1 hgrow
          replace hO2 := hk2
          replace hO1 : w1'.ownsRow w.heap.size 3 1 v1 (L1.length + 1) ((L1 ++ [x.id]).map (Value.int .i64)) := by rw [List.map_append]; exact hown'
          replace hD := Lib.hid hD2
          clear hown' hgrow hat hk2 hD2 yn zn
          have f4 := Joins.unfrozen_of_block bo 0
          have s4 := Joins.cell_of_block bo 0
          have zo4 := size_of_block bo
          replace bk := (put_other (i := 0) v1 (show w.heap.size ≠ ob by omega)).trans bk
          replace br := (put_other (i := 0) v1 (show w.heap.size + 1 ≠ ob by omega)).trans br
          replace bs := (put_other (i := 0) v1 (show sx ≠ ob by omega)).trans bs
          replace hO1 := own_setCell hO1 0 v1 (own_ne_block hO1 bo (by decide))
          replace hO2 := own_setCell hO2 0 v1 (own_ne_block hO2 bo (by decide))
          replace hB := below_set (i := 0) (v := v1) hB (show w.heap.size ≤ ob by omega)
          replace bo := Joins.block_setCell (i := 0) bo v1
          obtain ⟨B1, e1, rfl⟩ := own_form hO1
          show wpList _ _ _ _ _ _
          have cbs0 := Joins.cell_of_block bs 0
          have cbs1 := Joins.cell_of_block bs 1
          have zbs := size_of_block bs
          go_wp2_with fail
          all_goals (try (exfalso; omega))
          clear cbs0 cbs1 zbs
          go_roundw
          case rel =>
            refine ⟨j + 1, B1, e1, Am, cm, by omega, by go_num, bk, br, ?_, ?_, ?_, ?_, hB⟩
            · rw [HS8.out, HM8.out]; simpa using bo
            · rw [HS8.out]; simpa using hO1
            · rw [HM8.out]; simpa using hO2
            · rw [HS8.out, HM8.out]; simpa using hD
          case measure => simp [intOf]; omega
      · by_cases hm0 : 0 < z2
        · rw [if_neg hs0] at HS8
          rw [if_pos hm0] at HM8
          have hsx := size_of_block bo
          have bs := heap_alloc_new w101 (.cells #[.int .i64 z1, .int .i64 z2] 63)
          have HB := below_alloc w101 (.cells #[.int .i64 z1, .int .i64 z2] 63)
          have cbs0 := Joins.cell_of_block bs 0
          have cbs1 := Joins.cell_of_block bs 1
          have zbs := size_of_block bs
          go_wp2_with fail
          all_goals (try (exfalso; omega))
          generalize (w101.alloc (.cells #[.int .i64 z1, .int .i64 z2] 63)) = w102 at bs HB cbs0 cbs1 zbs ⊢
          replace bk := (HB.block _ (size_of_block bk)).trans bk
          replace br := (HB.block _ (size_of_block br)).trans br
          replace bo := (HB.block _ (size_of_block bo)).trans bo
          replace hO1 := own_later hO1 HB
          replace hO2 := own_later hO2 HB
          replace hB := below_then hB HB
          clear HB
          clear cbs0 cbs1 zbs
          generalize w101.heap.size = sx at bs hsx ⊢
          have hkW := HK.out.later hB
          obtain ⟨al, ad, aw, e9, hl, hd, _⟩ := hkW
          obtain ⟨rfl, rfl, rfl⟩ : .slice A1 k.ls.length c1 = al ∧ .slice (some ⟨sb, so, none⟩) k.ds.length c2 = ad ∧ .slice A3 k.ws.length c3 = aw := by simpa using e9
          obtain ⟨A', c', e8, _, hln, hat⟩ := hd.open_
          obtain ⟨rfl, rfl⟩ : (some ⟨sb, so, none⟩) = A' ∧ c2 = c' := by simpa using e8
          obtain ⟨sb', so', y, hAA, hsb, hy, ya, _, _, _⟩ := hat j hlt
          obtain ⟨rfl, rfl⟩ : sb = sb' ∧ so = so' := by simpa using hAA
          obtain rfl : x = y := by rw [HX.out] at hy; simpa using hy
          clear hat hl hd e8 e9 hln hy hAA
          refine wp_region_looseM [] [0, 1, 2, 3, 4, 5, 6, 7] (.one 8 .done) [] [] [9, 10, 11] [] [] (by kernel_rfl) (by kernel_rfl) (by intro c a d v w h; cases d <;> exact h) (by intro c a d v w h; cases d <;> exact h) rfl (fun r i h => by simp at h) ?_
          simp only [pick, List.filterMap_cons, List.filterMap_nil, List.getElem?_toArray, List.getElem?_cons_succ, List.getElem?_cons_zero]
          intro u103x2 hu
          replace ya := (hu.cell (p := ⟨sb, so + j * 4, none⟩) hsb).trans ya
          replace hsb := Nat.lt_of_lt_of_le hsb hu.size
          replace bk := (hu.block _ (size_of_block bk)).trans bk
          replace br := (hu.block _ (size_of_block br)).trans br
          replace bo := (hu.block _ (size_of_block bo)).trans bo
          replace bs := (hu.block _ (size_of_block bs)).trans bs
          replace hO1 := own_later hO1 hu
          replace hO2 := own_later hO2 hu
          replace hB := below_then hB hu
          clear hu
          have cbk0 := Joins.cell_of_block bk 0
          have cbk1 := Joins.cell_of_block bk 1
          have cbk2 := Joins.cell_of_block bk 2
          have cbk3 := Joins.cell_of_block bk 3
          have cbk4 := Joins.cell_of_block bk 4
          have zbk := size_of_block bk
          have cbo0 := Joins.cell_of_block bo 0
          have cbo1 := Joins.cell_of_block bo 1
          have cbo2 := Joins.cell_of_block bo 2
          have zbo := size_of_block bo
          have hcg : ∀ (g : Gr u103x2) b o, b < u103x2.heap.size → g.val.cell? ⟨b, o, none⟩ = u103x2.cell? ⟨b, o, none⟩ := fun g b o h => (bcell g.b).1 b o h
          iterate 8 (refine wpRel_step (fun K hK => ?_); go_simp; refine hK _ ?_; clear hK K)
          refine wpRel_nil fun V0 hb0 => ?_
          clear hcg ya hsb cbk0 cbk1 cbk2 cbk3 cbk4 zbk cbo0 cbo1 cbo2 zbo
          replace bk := (hb0.block _ (size_of_block bk)).trans bk
          replace br := (hb0.block _ (size_of_block br)).trans br
          replace bo := (hb0.block _ (size_of_block bo)).trans bo
          replace bs := (hb0.block _ (size_of_block bs)).trans bs
          replace hO1 := own_later hO1 hb0
          replace hO2 := own_later hO2 hb0
          replace hB := below_then hB hb0
          clear hb0
          refine wpTr_step rfl rfl fun K hK => ?_
          go_simp
          refine hK _ _ (below_alloc _ _) fun V1 hu1 => ?_
          clear hK K
          have yn := (hu1.block _ (by simp)).trans (heap_alloc_new V0 (.cells #[.int .i64 x.id] 3))
          have D1 := below_then (below_alloc V0 (.cells #[.int .i64 x.id] 3)) hu1
          have zn := size_of_block yn
          replace bk := (D1.block _ (size_of_block bk)).trans bk
          replace br := (D1.block _ (size_of_block br)).trans br
          replace bo := (D1.block _ (size_of_block bo)).trans bo
          replace bs := (D1.block _ (size_of_block bs)).trans bs
          replace hO1 := own_later hO1 D1
          replace hO2 := own_later hO2 D1
          replace hB := below_then hB D1
          clear D1 hu1
          show wpPure _ _ _ _
          intro ks hks _ _
          obtain rfl : ks = [] := List.length_eq_zero_iff.1 hks
          clear hks
          show wpList _ _ _ _ _ _
          simp only [deco]
          refine wpList_append_own_at _ rfl _ _ 27 rfl w.heap.size 3 i0 (.int .i64 0) 1 8 Tryz.underlying27 HI.out HI0.out HI1.out HI2.out rfl (by decide) _ _ _ rfl hO2 ⟨V0.heap.size, 0, none⟩ 1 1 [.int .i64 x.id] rfl rfl (one_cell yn) (one_oneCell rfl) ?c3 ?c4 ?c5 ?_
          case c3 => unfold maxLen; omega
          case c4 => omega
          case c5 => exact hB.size
          intro v2 w2' hown' hgrow _ hat
          obtain ⟨hk2, hD2⟩ := app_apart2 hO1 (apart_symm hD.out) hgrow hat
          replace bk := (hgrow.block _ (size_of_block bk) (Ne.symm (own_ne_block hO2 bk (by decide)))).trans bk
          replace br := (hgrow.block _ (size_of_block br) (Ne.symm (own_ne_block hO2 br (by decide)))).trans br
          replace bo := (hgrow.block _ (size_of_block bo) (Ne.symm (own_ne_block hO2 bo (by decide)))).trans bo
          replace bs := (hgrow.block _ (size_of_block bs) (Ne.symm (own_ne_block hO2 bs (by decide)))).trans bs
          replace hB := below_own hB hB.size hO2 hgrow
          replace hO1 := hk2
          replace hO2 : w2'.ownsRow w.heap.size 3 1 v2 (L2.length + 1) ((L2 ++ [x.id]).map (Value.int .i64)) := by rw [List.map_append]; exact hown'
          replace hD := Lib.hid (apart_symm hD2)
          clear hown' hgrow hat hk2 hD2 yn zn
          have f4 := Joins.unfrozen_of_block bo 1
          have s4 := Joins.cell_of_block bo 1
          have zo4 := size_of_block bo
          replace bk := (put_other (i := 1) v2 (show w.heap.size ≠ ob by omega)).trans bk
          replace br := (put_other (i := 1) v2 (show w.heap.size + 1 ≠ ob by omega)).trans br
          replace bs := (put_other (i := 1) v2 (show sx ≠ ob by omega)).trans bs
          replace hO1 := own_setCell hO1 1 v2 (own_ne_block hO1 bo (by decide))
          replace hO2 := own_setCell hO2 1 v2 (own_ne_block hO2 bo (by decide))
          replace hB := below_set (i := 1) (v := v2) hB (show w.heap.size ≤ ob by omega)
          replace bo := Joins.block_setCell (i := 1) bo v2
          obtain ⟨B2, e2, rfl⟩ := own_form hO2
          show wpList _ _ _ _ _ _
          go_wp2_with fail
          go_roundw
          case rel =>
            refine ⟨j + 1, Av, cv, B2, e2, by omega, by go_num, bk, br, ?_, ?_, ?_, ?_, hB⟩
            · rw [HS8.out, HM8.out]; simpa using bo
            · rw [HS8.out]; simpa using hO1
            · rw [HM8.out]; simpa using hO2
            · rw [HS8.out, HM8.out]; simpa using hD
          case measure => simp [intOf]; omega
        · rw [if_neg hs0] at HS8
          rw [if_neg hm0] at HM8
          have hsx := size_of_block bo
          have bs := heap_alloc_new w101 (.cells #[.int .i64 z1, .int .i64 z2] 63)
          have HB := below_alloc w101 (.cells #[.int .i64 z1, .int .i64 z2] 63)
          have cbs0 := Joins.cell_of_block bs 0
          have cbs1 := Joins.cell_of_block bs 1
          have zbs := size_of_block bs
          go_wp2_with fail
          all_goals (try (exfalso; omega))
          generalize (w101.alloc (.cells #[.int .i64 z1, .int .i64 z2] 63)) = w102 at bs HB cbs0 cbs1 zbs ⊢
          replace bk := (HB.block _ (size_of_block bk)).trans bk
          replace br := (HB.block _ (size_of_block br)).trans br
          replace bo := (HB.block _ (size_of_block bo)).trans bo
          replace hO1 := own_later hO1 HB
          replace hO2 := own_later hO2 HB
          replace hB := below_then hB HB
          clear HB
          clear cbs0 cbs1 zbs
          generalize w101.heap.size = sx at bs hsx ⊢
          go_roundw
          case rel =>
            refine ⟨j + 1, Av, cv, Am, cm, by omega, by go_num, bk, br, ?_, ?_, ?_, ?_, hB⟩
            · rw [HS8.out, HM8.out]; simpa using bo
            · rw [HS8.out]; simpa using hO1
            · rw [HM8.out]; simpa using hO2
            · rw [HS8.out, HM8.out]; simpa using hD
          case measure => simp [intOf]; omega
    · obtain rfl : j = k.ds.length := by omega
      rw [← HF9.out.1] at hO1 bo
      rw [← HF9.out.2] at hO2 bo
      obtain ⟨S9, hS9⟩ : ∃ l, l = sinkS k id := ⟨_, rfl⟩
      obtain ⟨M9, hM9⟩ : ∃ l, l = sinkM k id := ⟨_, rfl⟩
      rw [← hS9] at hO1 bo
      rw [← hM9] at hO2 bo
      have HS9 := Lib.hid hS9
      have HM9 := Lib.hid hM9
      clear hS9 hM9 HF9 hD
      have HPP := Lib.hid (fun jj : Nat => cell_setRow_same wr (w.heap.size + 1) jj _ #[.slice Av S9.length cv, .slice Am M9.length cm, .int .i64 0] _ _ br)
      have HBF := Lib.hid (below_setRow hB (show w.heap.size ≤ w.heap.size + 1 by omega) #[.slice Av S9.length cv, .slice Am M9.length cm, .int .i64 0])
      have HO1 := Lib.hid (own_setRowX hO1 br (by decide) #[.slice Av S9.length cv, .slice Am M9.length cm, .int .i64 0])
      have HO2 := Lib.hid (own_setRowX hO2 br (by decide) #[.slice Av S9.length cv, .slice Am M9.length cm, .int .i64 0])
      clear hO1 hO2
      have cbk0 := Joins.cell_of_block bk 0
      have cbk1 := Joins.cell_of_block bk 1
      have cbk2 := Joins.cell_of_block bk 2
      have cbk3 := Joins.cell_of_block bk 3
      have cbk4 := Joins.cell_of_block bk 4
      have zbk := size_of_block bk
      have cbo0 := Joins.cell_of_block bo 0
      have cbo1 := Joins.cell_of_block bo 1
      have cbo2 := Joins.cell_of_block bo 2
      have zbo := size_of_block bo
      go_wp2_with (first | (refine wpList_store_rowTo rfl 79 _ _ rfl rfl (w.heap.size + 1) #[.slice Av S9.length cv, .slice Am M9.length cm, .int .i64 0] rfl rfl 79 _ br (by kernel_rfl) rfl (by kernel_rfl) ?_))
      all_goals (try (exfalso; omega))
      refine bodyPost_ret (v := .agg #[.slice Av S9.length cv, .slice Am M9.length cm, .int .i64 0]) ?_ rfl ⟨.slice Av S9.length cv, .slice Am M9.length cm, by rw [HEE.out], ⟨by have h9 := HO1.out; rw [HS9.out] at h9 ⊢; exact h9, by have h9 := HO2.out; rw [HM9.out] at h9 ⊢; exact h9⟩, HBF.out⟩
      simp [results, Tryz.results52, go_sem, HPP.out]
theorem rSinks_c (k : Kl) (v : Value) (id : Int) (w : World) (hk : Kiln w v k) : Calls Tryz.prog 52 #[v, .int .i64 id] w fun e w' => ∃ u1 u2, e = .returned (.agg #[u1, u2, .int .i64 (sinkE k id)]) ∧ (w'.ownsRow w.heap.size 3 1 u1 (sinkS k id).length ((sinkS k id).map (Value.int .i64)) ∧ w'.ownsRow w.heap.size 3 1 u2 (sinkM k id).length ((sinkM k id).map (Value.int .i64))) ∧ Below w.heap.size w w' := by
  by_cases hc : checkI k = 0
  · by_cases h1 : place k.ls id < 0
    · exact rSinks_none k v id w hk hc h1
    · cases hcan : canB (tiesL k)
      · exact rSinks_cant k v id w hk hc h1 hcan
      · exact rSinks_ok k v id w hk hc h1 hcan
  · exact rSinks_bad k v id w hk hc
end Go.Proofs.YtnedcclmfokdnaaGreat
