/- The reference's atLeast (written by tools/gensrefal.py). -/
import Derived.Test.YtnedcclmfokdnaaGreatZSRefF
import Derived.Test.YtnedcclmfokdnaaGreatJ2
import Derived.Test.YtnedcclmfokdnaaGreatJ25
import Derived.Test.YtnedcclmfokdnaaGreatJ18
import Derived.Test.YtnedcclmfokdnaaGreatZPlanG
import Derived.Test.YtnedcclmfokdnaaGreatZSHgtE
import Derived.Test.YtnedcclmfokdnaaGreatZRefBE
import Derived.Test.YtnedcclmfokdnaaGreatZSTabE
namespace Go.Proofs.YtnedcclmfokdnaaGreat
open Go Go.RowKit Go.Shelf
attribute [local go_sem] Oper.semAt_some Rel RelAt RelUpon

/-- The ties that ask that at least n of a load is in a draw, in the reference's order. -/
def leastT (l a b n : Int) : List Tie := [⟨l + 1, l, -n, 0⟩, ⟨l + 1, a, -n, 0⟩, ⟨b, l, -n, 0⟩, ⟨b, a, -n, 0⟩]
theorem leastT_mem {l a b n : Int} {t : Tie} : t ∈ leastT l a b n ↔ t ∈ moreT ⟨l, l + 1⟩ ⟨a, b⟩ n := by
  simp only [leastT, moreT, sides, List.map_cons, List.map_nil, List.mem_cons, List.not_mem_nil, or_false]
  constructor <;> (rintro (h | h | h | h) <;> simp [h])
set_option maxRecDepth 100000 in
set_option maxHeartbeats 4000000 in
theorem ratLeast_c (k : Kl) (v : Value) (d l n : Int) (w : World) (hk : Kiln w v k) (hR : Right k) (hd : 0 ≤ d ∧ d < k.ds.length) (hl : 0 ≤ l ∧ l < k.ls.length) (hn : 0 ≤ n ∧ n ≤ 1048576) :
    Calls Tryz.prog 160 #[v, .int .i64 d, .int .i64 l, .int .i64 n] w fun e w' => ∃ u, e = .returned u ∧ OwnTies w' w.heap.size 99 u (tiesL k ++ leastT l (markI k d) (markI k (d + 1)) n) ∧ Below w.heap.size w w' := by
  obtain ⟨A1, c1, A2, c2, A3, c3, rfl⟩ := kilnForm hk
  have n1 := hR.ls
  have n2 := hR.ds
  have yA := fun v W h => mark_c k v d W (by omega) (by omega) h
  have yB := fun v W h => mark_c k v (d + 1) W (by omega) (by omega) h
  have ra := mark_rngN (k := k) (n := d) (by omega)
  have rb := mark_rngN (k := k) (n := d + 1) (by omega)
  have hmm : (mN k : Int) ≤ 41 := by unfold mN; omega
  obtain ⟨a, ha⟩ : ∃ x, x = markI k d := ⟨_, rfl⟩
  obtain ⟨b, hb⟩ : ∃ x, x = markI k (d + 1) := ⟨_, rfl⟩
  rw [← ha] at yA ra ⊢
  rw [← hb] at yB rb ⊢
  clear ha hb
  obtain ⟨i0, hi0, hz0, hz1, hz2⟩ := info_parts Tryz.infoTie
  have HI := Lib.hid hi0
  have HI0 := Lib.hid hz0
  have HI1 := Lib.hid hz1
  have HI2 := Lib.hid hz2
  have HA := Lib.hid yA
  have HBB := Lib.hid yB
  have HR := Lib.hid hR
  have hlen := tiesL_len hR.small
  have HK := Lib.hid hk
  clear hi0 hz0 hz1 hz2 yA yB hR hk
  go_enter Tryz.func160, Tryz.ntmps160
  have bk := heap_alloc_new w (.cells #[.int .i64 k.room, .int .i64 k.per, .slice A1 k.ls.length c1, .slice A2 k.ds.length c2, .slice A3 k.ws.length c3] 26)
  have HB := below_alloc w (.cells #[.int .i64 k.room, .int .i64 k.per, .slice A1 k.ls.length c1, .slice A2 k.ds.length c2, .slice A3 k.ws.length c3] 26)
  have cbk0 := Joins.cell_of_block bk 0
  have cbk1 := Joins.cell_of_block bk 1
  have cbk2 := Joins.cell_of_block bk 2
  have cbk3 := Joins.cell_of_block bk 3
  have cbk4 := Joins.cell_of_block bk 4
  have zbk := size_of_block bk
  go_wp2_with fail
  generalize (w.alloc (.cells #[.int .i64 k.room, .int .i64 k.per, .slice A1 k.ls.length c1, .slice A2 k.ds.length c2, .slice A3 k.ws.length c3] 26)) = w1 at bk HB cbk0 cbk1 cbk2 cbk3 cbk4 zbk ⊢
  have hB := HB
  clear HB
  refine (HA.out _ w1 (HK.out.later hB)).mono ?_
  rintro e w2 ⟨rfl, hF⟩
  clear cbk0 cbk1 cbk2 cbk3 cbk4 zbk
  replace bk := (hF.block _ (size_of_block bk)).trans bk
  replace hB := below_then hB hF
  clear hF
  have cbk0 := Joins.cell_of_block bk 0
  have cbk1 := Joins.cell_of_block bk 1
  have cbk2 := Joins.cell_of_block bk 2
  have cbk3 := Joins.cell_of_block bk 3
  have cbk4 := Joins.cell_of_block bk 4
  have zbk := size_of_block bk
  go_wp2_with fail
  refine (HBB.out _ w2 (HK.out.later hB)).mono ?_
  rintro e w3 ⟨rfl, hF⟩
  clear cbk0 cbk1 cbk2 cbk3 cbk4 zbk
  replace bk := (hF.block _ (size_of_block bk)).trans bk
  replace hB := below_then hB hF
  clear hF
  have cbk0 := Joins.cell_of_block bk 0
  have cbk1 := Joins.cell_of_block bk 1
  have cbk2 := Joins.cell_of_block bk 2
  have cbk3 := Joins.cell_of_block bk 3
  have cbk4 := Joins.cell_of_block bk 4
  have zbk := size_of_block bk
  go_wp2_with fail
  refine (rties_c k _ w3 (HK.out.later hB) HR.out.small).mono ?_
  rintro e w4 ⟨u, rfl, hT, hF⟩
  have hO := own_less hT (show w.heap.size ≤ _ by have := hB.size; omega)
  clear hT
  clear cbk0 cbk1 cbk2 cbk3 cbk4 zbk
  replace bk := (hF.block _ (size_of_block bk)).trans bk
  replace hB := below_then hB hF
  clear hF
  have hB0 := hB.size
  go_wp2_with (at_builtin; refine wpList_append_own _ rfl _ _ 32 rfl w.heap.size 99 i0 (.agg #[.int .i64 0, .int .i64 0, .int .i64 0, .int .i64 0]) 4 32 Tryz.underlying32 HI.out HI0.out HI1.out HI2.out rfl (by decide) _ _ _ rfl (hO.alloc _) ⟨w4.heap.size, 0, none⟩ 1 1 [.int .i64 (l + 1), .int .i64 l, .int .i64 (-n), .int .i64 0] rfl rfl ?c1 ?c2 ?c3 ?c4 ?c5 ?_)
  case c1 => have := cells_new w4 [.int .i64 (l + 1), .int .i64 l, .int .i64 (-n), .int .i64 0] 99; simpa using this
  case c2 => intro u hu; simp at hu; rcases hu with rfl | rfl | rfl | rfl <;> rfl
  case c3 => unfold maxLen; omega
  case c4 => omega
  case c5 => simp; omega
  intro v0 q0 hown' hgrow _
  replace hB := below_append hB hB0 hO hgrow
  replace hO := hown'
  clear hgrow hown' hB0
  have hB0 := hB.size
  go_wp2_with (at_builtin; refine wpList_append_own _ rfl _ _ 32 rfl w.heap.size 99 i0 (.agg #[.int .i64 0, .int .i64 0, .int .i64 0, .int .i64 0]) 4 32 Tryz.underlying32 HI.out HI0.out HI1.out HI2.out rfl (by decide) _ _ _ rfl (hO.alloc _) ⟨q0.heap.size, 0, none⟩ 1 1 [.int .i64 (l + 1), .int .i64 a, .int .i64 (-n), .int .i64 0] rfl rfl ?c1 ?c2 ?c3 ?c4 ?c5 ?_)
  case c1 => have := cells_new q0 [.int .i64 (l + 1), .int .i64 a, .int .i64 (-n), .int .i64 0] 99; simpa using this
  case c2 => intro u hu; simp at hu; rcases hu with rfl | rfl | rfl | rfl <;> rfl
  case c3 => unfold maxLen; omega
  case c4 => omega
  case c5 => simp; omega
  intro v1 q1 hown' hgrow _
  replace hB := below_append hB hB0 hO hgrow
  replace hO := hown'
  clear hgrow hown' hB0
  have hB0 := hB.size
  go_wp2_with (at_builtin; refine wpList_append_own _ rfl _ _ 32 rfl w.heap.size 99 i0 (.agg #[.int .i64 0, .int .i64 0, .int .i64 0, .int .i64 0]) 4 32 Tryz.underlying32 HI.out HI0.out HI1.out HI2.out rfl (by decide) _ _ _ rfl (hO.alloc _) ⟨q1.heap.size, 0, none⟩ 1 1 [.int .i64 b, .int .i64 l, .int .i64 (-n), .int .i64 0] rfl rfl ?c1 ?c2 ?c3 ?c4 ?c5 ?_)
  case c1 => have := cells_new q1 [.int .i64 b, .int .i64 l, .int .i64 (-n), .int .i64 0] 99; simpa using this
  case c2 => intro u hu; simp at hu; rcases hu with rfl | rfl | rfl | rfl <;> rfl
  case c3 => unfold maxLen; omega
  case c4 => omega
  case c5 => simp; omega
  intro v2 q2 hown' hgrow _
  replace hB := below_append hB hB0 hO hgrow
  replace hO := hown'
  clear hgrow hown' hB0
  have hB0 := hB.size
  go_wp2_with (at_builtin; refine wpList_append_own _ rfl _ _ 32 rfl w.heap.size 99 i0 (.agg #[.int .i64 0, .int .i64 0, .int .i64 0, .int .i64 0]) 4 32 Tryz.underlying32 HI.out HI0.out HI1.out HI2.out rfl (by decide) _ _ _ rfl (hO.alloc _) ⟨q2.heap.size, 0, none⟩ 1 1 [.int .i64 b, .int .i64 a, .int .i64 (-n), .int .i64 0] rfl rfl ?c1 ?c2 ?c3 ?c4 ?c5 ?_)
  case c1 => have := cells_new q2 [.int .i64 b, .int .i64 a, .int .i64 (-n), .int .i64 0] 99; simpa using this
  case c2 => intro u hu; simp at hu; rcases hu with rfl | rfl | rfl | rfl <;> rfl
  case c3 => unfold maxLen; omega
  case c4 => omega
  case c5 => simp; omega
  intro v3 q3 hown' hgrow _
  replace hB := below_append hB hB0 hO hgrow
  replace hO := hown'
  clear hgrow hown' hB0
  have hB0 := hB.size
  go_wp2_with fail
  go_ret
  refine ⟨_, rfl, ?_, hB⟩
  unfold OwnTies
  simpa [leastT, tC, Nat.add_assoc] using hO
end Go.Proofs.YtnedcclmfokdnaaGreat

/- The reference's share (written by tools/gensrefsh.py). -/
namespace Go.Proofs.YtnedcclmfokdnaaGreat
open Go Go.RowKit Go.Shelf
attribute [local go_sem] Oper.semAt_some Rel RelAt RelUpon

theorem rtable_b (l : List Tie) (N : Nat) (u : Value) (w : World) (hT : TiesAt w w.heap.size u l) (hok : NetOk l (N : Nat)) (hre : ∀ x : Nat, x < N → Reaches l (N : Nat) (x : Int)) :
    Calls Tryz.prog 93 #[.int .i64 N, u] w fun e w' => ∃ (g cap : Nat) (bs cp : Nat → Nat) (D : Int → Int → Int), e = .returned (.tuple #[.slice (some ⟨g, 0, none⟩) N cap, .bool (canB l)]) ∧ ((∀ x y : Nat, x < N → y < N → w'.cell? ⟨g, x, none⟩ = some (.slice (some ⟨bs x, 0, none⟩) N (cp x)) ∧ w'.cell? ⟨bs x, y, none⟩ = some (.int .i64 (D (x : Int) (y : Int))) ∧ bs x < w'.heap.size) ∧ g < w'.heap.size ∧
      (canB l = true → ∀ x y : Nat, x < N → y < N → D (x : Int) (y : Int) = dst l x y)) ∧ Below w.heap.size w w' := by
  have hn0 : 0 < N := by have := hok.pos; omega
  refine (table_r l u N w hT hok).mono ?_
  rintro e w' ⟨v, bs, cp, D, b, rfl, hD, hTO, hb, hB⟩
  have hown := hD.own
  obtain ⟨A, cap, rfl⟩ := own_form hown
  rcases hown.2 with ⟨_, h0⟩ | ⟨g, c, cur, he, hg, hh, _⟩
  · omega
  · obtain ⟨rfl, rfl⟩ : A = some ⟨g, 0, none⟩ ∧ cap = c := by simpa using he
    have hc : b = canB l := by
      have hk := circle_or hok hTO (hre 0 hn0)
      rw [Bool.eq_iff_iff, hb, canB_true, hk]
    subst hc
    refine ⟨g, cap, bs, cp, D, rfl, ⟨fun x y hx hy => ⟨hD.at_ hx, hD.cell hx hy, (hD.lt hx).2⟩, (hown.lt g rfl).2, fun hcan x y hx hy => tab_dst hok hTO (canB_true.1 hcan) ⟨by omega, by omega⟩ ⟨by omega, by omega⟩ (hre x hx)⟩, hB⟩
theorem canB_least {l : List Tie} {x a b n : Int} : canB (l ++ leastT x a b n) = true ↔ CanZ l ⟨x, x + 1⟩ ⟨a, b⟩ n := by
  rw [canB_true]
  unfold CanZ Can Keeps
  constructor
  · rintro ⟨g, hg⟩
    exact ⟨g, fun t ht => hg t (by rw [List.mem_append] at ht ⊢; exact ht.imp id leastT_mem.2)⟩
  · rintro ⟨g, hg⟩
    exact ⟨g, fun t ht => hg t (by rw [List.mem_append] at ht ⊢; exact ht.imp id leastT_mem.1)⟩
theorem net_least {l : List Tie} {N : Nat} {x a b n : Int} (ok : NetOk l (N : Nat)) (hx : 0 ≤ x ∧ x + 1 < N) (ha : 0 ≤ a ∧ a < N) (hb : 0 ≤ b ∧ b < N) (hn : 0 ≤ n ∧ n ≤ 1048576) : NetOk (l ++ leastT x a b n) (N : Nat) := by
  refine ⟨ok.pos, ok.le, fun t ht => ?_⟩
  rcases List.mem_append.1 ht with h | h
  · exact ok.rng t h
  · simp only [leastT, List.mem_cons, List.not_mem_nil, or_false] at h
    rcases h with rfl | rfl | rfl | rfl <;> (simp only; omega)
set_option linter.unusedSimpArgs false in
set_option maxRecDepth 100000 in
set_option maxHeartbeats 12000000 in
theorem rshare_c (k : Kl) (v : Value) (d l : Nat) (w : World) (hk : Kiln w v k) (hR : Right k) (hcan : canB (tiesL k) = true) (hd : d < k.ds.length) (hl : l < k.ls.length) : Calls Tryz.prog 119 #[v, .int .i64 d, .int .i64 l] w fun e w' => e = .returned (.agg #[.int .i64 (leastZ (tiesL k) ⟨(l : Int), (l : Int) + 1⟩ ⟨markI k d, markI k ((d : Int) + 1)⟩), .int .i64 (mostZ (tiesL k) ⟨(l : Int), (l : Int) + 1⟩ ⟨markI k d, markI k ((d : Int) + 1)⟩)]) ∧ Below w.heap.size w w' := by
  obtain ⟨A1, c1, A2, c2, A3, c3, rfl⟩ := kilnForm hk
  have hmn := mN_eq k
  have hok : NetOk (tiesL k) (mN k : Nat) := by rw [← hmn]; exact net_ok hR
  have hre : ∀ x : Nat, x < mN k → Reaches (tiesL k) (mN k : Nat) (x : Int) := fun x hx => by rw [← hmn]; exact net_reaches k (by omega) (by rw [hmn]; omega)
  have n1 := hR.ls
  have n2 := hR.ds
  have yA := fun v W h => mark_c k v d W (by omega) (by omega) h
  have yB := fun v W h => mark_c k v ((d : Int) + 1) W (by omega) (by omega) h
  have ra := mark_rngN (k := k) (n := (d : Int)) (by omega)
  have rb := mark_rngN (k := k) (n := (d : Int) + 1) (by omega)
  have hmm : (mN k : Int) ≤ 41 := by unfold mN; omega
  have hlN : l + 1 < mN k := by unfold mN; omega
  have yL := fun v (n : Int) W h (hn : 0 ≤ n ∧ n ≤ 1048576) => ratLeast_c k v d l n W h hR (by omega) (by omega) hn
  obtain ⟨a, ha⟩ := Int.eq_ofNat_of_zero_le ra.1
  obtain ⟨b, hb⟩ := Int.eq_ofNat_of_zero_le rb.1
  rw [ha] at yA ra yL ⊢
  rw [hb] at yB rb yL ⊢
  have haN : a < mN k := by omega
  have hbN : b < mN k := by omega
  have hlen := tiesL_len hR.small
  have yT0 := fun u W h => rtable_b (tiesL k) (mN k) u W h hok hre
  rw [hcan] at yT0
  have yT := fun (n : Int) (hn : 0 ≤ n ∧ n ≤ 1048576) u W h => rtable_b (tiesL k ++ leastT (l : Int) a b n) (mN k) u W h (net_least hok (by omega) (by omega) (by omega) hn) (fun x hx => reaches_more (hre x hx))
  have hpo : PtsOk (tiesL k) (mN k : Nat) ⟨(l : Int), (l : Int) + 1⟩ ⟨(a : Int), (b : Int)⟩ := ⟨by simp only; omega, by simp only; omega, by simp only; omega, by simp only; omega, by simpa using hre (l + 1) hlN, hre b hbN⟩
  have dd := fun (x y : Nat) (hx : x < mN k) (hy : y < mN k) => dst_rng hok (canB_true.1 hcan) (hre x hx (y : Int) (by omega) (by omega)) (hre y hy (x : Int) (by omega) (by omega))
  have DD := Lib.hid dd
  have HYA := Lib.hid yA
  have HYB := Lib.hid yB
  have HYL := Lib.hid yL
  have HT0 := Lib.hid yT0
  have HYT := Lib.hid yT
  have HR := Lib.hid hR
  have hmE : (k.ls.length : Int) + k.ds.length + 1 = (mN k : Nat) := by unfold mN; omega
  have yM := fun v W h => marks_c k v W h
  rw [hmE] at yM
  have HM := Lib.hid yM
  obtain ⟨LZ, hLZ⟩ : ∃ z, z = leastZ (tiesL k) ⟨(l : Int), (l : Int) + 1⟩ ⟨(a : Int), (b : Int)⟩ := ⟨_, rfl⟩
  obtain ⟨MZ, hMZ⟩ : ∃ z, z = mostZ (tiesL k) ⟨(l : Int), (l : Int) + 1⟩ ⟨(a : Int), (b : Int)⟩ := ⟨_, rfl⟩
  rw [← hLZ, ← hMZ]
  have HLZ := Lib.hid hLZ
  have HMZ := Lib.hid hMZ
  have HK := Lib.hid hk
  obtain ⟨l1, hl1⟩ : ∃ z : Nat, z = l + 1 := ⟨_, rfl⟩
  have hl0 : l < mN k := by omega
  rw [← hl1] at hlN
  have hwl : IntKind.i64.wrap ((l : Int) + 1) = (l1 : Int) := by rw [IntKind.wrap_i64]; omega
  have HL1 := Lib.hid hl1
  clear hl1
  clear yA yB yL yT0 yT dd yM hk hR hre hok hpo hcan ha hb hmn hmE hLZ hMZ
  go_enter Tryz.func119, Tryz.ntmps119
  obtain ⟨bk, br, -, HB⟩ := two_new' w (.cells #[.int .i64 k.room, .int .i64 k.per, .slice A1 k.ls.length c1, .slice A2 k.ds.length c2, .slice A3 k.ws.length c3] 26) (.cells #[.int .i64 0, .int .i64 0] 63)
  have cbk0 := Joins.cell_of_block bk 0
  have cbk1 := Joins.cell_of_block bk 1
  have cbk2 := Joins.cell_of_block bk 2
  have cbk3 := Joins.cell_of_block bk 3
  have cbk4 := Joins.cell_of_block bk 4
  have zbk := size_of_block bk
  go_wp2_with fail
  generalize ((w.alloc (.cells #[.int .i64 k.room, .int .i64 k.per, .slice A1 k.ls.length c1, .slice A2 k.ds.length c2, .slice A3 k.ws.length c3] 26)).alloc (.cells #[.int .i64 0, .int .i64 0] 63)) = w1 at bk br HB cbk0 cbk1 cbk2 cbk3 cbk4 zbk ⊢
  have hB := HB
  clear HB
  refine (HM.out _ w1 (HK.out.later hB)).mono ?_
  rintro e w2 ⟨rfl, hF⟩
  clear cbk0 cbk1 cbk2 cbk3 cbk4 zbk
  replace bk := (hF.block _ (size_of_block bk)).trans bk
  replace br := (hF.block _ (size_of_block br)).trans br
  replace hB := below_then hB hF
  clear hF
  have cbk0 := Joins.cell_of_block bk 0
  have cbk1 := Joins.cell_of_block bk 1
  have cbk2 := Joins.cell_of_block bk 2
  have cbk3 := Joins.cell_of_block bk 3
  have cbk4 := Joins.cell_of_block bk 4
  have zbk := size_of_block bk
  go_wp2_with fail
  refine (rties_c k _ w2 (HK.out.later hB) HR.out.small).mono ?_
  rintro e w3 ⟨u, rfl, hTT, hF⟩
  clear cbk0 cbk1 cbk2 cbk3 cbk4 zbk
  replace bk := (hF.block _ (size_of_block bk)).trans bk
  replace br := (hF.block _ (size_of_block br)).trans br
  replace hB := below_then hB hF
  clear hF
  go_wp2_with fail
  refine (HT0.out u w3 (OwnTies.at_ hTT (by omega))).mono ?_
  rintro e w4 ⟨g, cap, bs, cp, D, rfl, HG, hF⟩
  replace bk := (hF.block _ (size_of_block bk)).trans bk
  replace br := (hF.block _ (size_of_block br)).trans br
  replace hTT := own_later hTT hF
  replace hB := below_then hB hF
  clear hF
  obtain ⟨g1, g2, g3⟩ := HG
  have hz := g3 trivial
  obtain ⟨s1, s2, s3⟩ := g1 l1 l hlN hl0
  obtain ⟨-, s4, -⟩ := g1 l1 a hlN haN
  obtain ⟨s5, s6, s7⟩ := g1 b l hbN hl0
  obtain ⟨-, s8, -⟩ := g1 b a hbN haN
  have ds2 := DD.out (l1) (l) hlN hl0
  rw [hz (l1) (l) hlN hl0] at s2
  have ds4 := DD.out (l1) (a) hlN haN
  rw [hz (l1) (a) hlN haN] at s4
  have ds6 := DD.out (b) (l) hbN hl0
  rw [hz (b) (l) hbN hl0] at s6
  have ds8 := DD.out (b) (a) hbN haN
  rw [hz (b) (a) hbN haN] at s8
  clear g1 g3 hz
  have cbk0 := Joins.cell_of_block bk 0
  have cbk1 := Joins.cell_of_block bk 1
  have cbk2 := Joins.cell_of_block bk 2
  have cbk3 := Joins.cell_of_block bk 3
  have cbk4 := Joins.cell_of_block bk 4
  have zbk := size_of_block bk
  go_wp2_with fail
  refine (HYA.out _ w4 (HK.out.later hB)).mono ?_
  rintro e w5 ⟨rfl, hF⟩
  clear cbk0 cbk1 cbk2 cbk3 cbk4 zbk
  replace bk := (hF.block _ (size_of_block bk)).trans bk
  replace br := (hF.block _ (size_of_block br)).trans br
  replace hTT := own_later hTT hF
  replace s1 := (hF.cell (p := ⟨g, l1, none⟩) g2).trans s1
  replace s2 := (hF.cell (p := ⟨bs l1, l, none⟩) s3).trans s2
  replace s4 := (hF.cell (p := ⟨bs l1, a, none⟩) s3).trans s4
  replace s5 := (hF.cell (p := ⟨g, b, none⟩) g2).trans s5
  replace s6 := (hF.cell (p := ⟨bs b, l, none⟩) s7).trans s6
  replace s8 := (hF.cell (p := ⟨bs b, a, none⟩) s7).trans s8
  replace g2 := Nat.lt_of_lt_of_le g2 hF.size
  replace s3 := Nat.lt_of_lt_of_le s3 hF.size
  replace s7 := Nat.lt_of_lt_of_le s7 hF.size
  replace hB := below_then hB hF
  clear hF
  have cbk0 := Joins.cell_of_block bk 0
  have cbk1 := Joins.cell_of_block bk 1
  have cbk2 := Joins.cell_of_block bk 2
  have cbk3 := Joins.cell_of_block bk 3
  have cbk4 := Joins.cell_of_block bk 4
  have zbk := size_of_block bk
  go_wp2_with fail
  refine (HYB.out _ w5 (HK.out.later hB)).mono ?_
  rintro e w6 ⟨rfl, hF⟩
  clear cbk0 cbk1 cbk2 cbk3 cbk4 zbk
  replace bk := (hF.block _ (size_of_block bk)).trans bk
  replace br := (hF.block _ (size_of_block br)).trans br
  replace hTT := own_later hTT hF
  replace s1 := (hF.cell (p := ⟨g, l1, none⟩) g2).trans s1
  replace s2 := (hF.cell (p := ⟨bs l1, l, none⟩) s3).trans s2
  replace s4 := (hF.cell (p := ⟨bs l1, a, none⟩) s3).trans s4
  replace s5 := (hF.cell (p := ⟨g, b, none⟩) g2).trans s5
  replace s6 := (hF.cell (p := ⟨bs b, l, none⟩) s7).trans s6
  replace s8 := (hF.cell (p := ⟨bs b, a, none⟩) s7).trans s8
  replace g2 := Nat.lt_of_lt_of_le g2 hF.size
  replace s3 := Nat.lt_of_lt_of_le s3 hF.size
  replace s7 := Nat.lt_of_lt_of_le s7 hF.size
  replace hB := below_then hB hF
  clear hF
  go_wp2_with fail
  obtain ⟨m1, hm1⟩ : ∃ z, z = dst (tiesL k) (l1 : Int) (l : Int) := ⟨_, rfl⟩
  rw [← hm1] at s2 ds2
  have hw1 : IntKind.i64.wrap (-m1) = -m1 := by rw [IntKind.wrap_i64]; omega
  obtain ⟨m2, hm2⟩ : ∃ z, z = dst (tiesL k) (l1 : Int) (a : Int) := ⟨_, rfl⟩
  rw [← hm2] at s4 ds4
  have hw2 : IntKind.i64.wrap (-m2) = -m2 := by rw [IntKind.wrap_i64]; omega
  obtain ⟨m3, hm3⟩ : ∃ z, z = dst (tiesL k) (b : Int) (l : Int) := ⟨_, rfl⟩
  rw [← hm3] at s6 ds6
  have hw3 : IntKind.i64.wrap (-m3) = -m3 := by rw [IntKind.wrap_i64]; omega
  obtain ⟨m4, hm4⟩ : ∃ z, z = dst (tiesL k) (b : Int) (a : Int) := ⟨_, rfl⟩
  rw [← hm4] at s8 ds8
  have hw4 : IntKind.i64.wrap (-m4) = -m4 := by rw [IntKind.wrap_i64]; omega
  have HLE := Lib.hid (show LZ = max 0 (min (min (-m1) (-m2)) (min (-m3) (-m4))) by rw [HLZ.out, hm1, hm2, hm3, hm4, show (l1 : Int) = (l : Int) + 1 by have := HL1.out; omega]; unfold leastZ; simp only; omega)
  obtain ⟨lo9, hlo9⟩ : ∃ z, z = min (min (-m1) (-m2)) (min (-m3) (-m4)) := ⟨_, rfl⟩
  have hlr : -687865856 ≤ lo9 ∧ lo9 ≤ 687865856 := by omega
  have HLO := Lib.hid hlo9
  have HLX := Lib.hid (show LZ = max 0 lo9 by rw [HLE.out, HLO.out])
  clear hm1 hm2 hm3 hm4 hlo9 HLE
  refine wp_region_looseM [0, 1, 5, 9, 10, 14, 19, 20, 23, 27, 28, 31] [2, 3, 4, 6, 7, 8, 11, 12, 13, 15, 16, 17, 18, 21, 22, 24, 25, 26, 29, 30, 32, 33, 34, 35, 36] .done [] [] [37] [] [] (by kernel_rfl) (by kernel_rfl) (by intro c a d v w h; cases d <;> exact h) (by intro c a d v w h; cases d <;> exact h) rfl (fun r i h => by simp at h) ?_
  simp only [pick, List.filterMap_cons, List.filterMap_nil, List.getElem?_toArray, List.getElem?_cons_succ, List.getElem?_cons_zero]
  refine wpPure_step (.slice (some ⟨g, 0, none⟩) (mN k) cap) (by kernel_rfl) (fun u => by kernel_rfl) ?_
  refine wpPure_step (.int .i64 l) (by kernel_rfl) (fun u => by kernel_rfl) ?_
  refine wpPure_step (.int .i64 l) (by kernel_rfl) (fun u => by kernel_rfl) ?_
  refine wpPure_step (.slice (some ⟨g, 0, none⟩) (mN k) cap) (by kernel_rfl) (fun u => by kernel_rfl) ?_
  refine wpPure_step (.int .i64 l) (by kernel_rfl) (fun u => by kernel_rfl) ?_
  refine wpPure_step (.int .i64 a) (by kernel_rfl) (fun u => by kernel_rfl) ?_
  refine wpPure_step (.slice (some ⟨g, 0, none⟩) (mN k) cap) (by kernel_rfl) (fun u => by kernel_rfl) ?_
  refine wpPure_step (.int .i64 b) (by kernel_rfl) (fun u => by kernel_rfl) ?_
  refine wpPure_step (.int .i64 l) (by kernel_rfl) (fun u => by kernel_rfl) ?_
  refine wpPure_step (.slice (some ⟨g, 0, none⟩) (mN k) cap) (by kernel_rfl) (fun u => by kernel_rfl) ?_
  refine wpPure_step (.int .i64 b) (by kernel_rfl) (fun u => by kernel_rfl) ?_
  refine wpPure_step (.int .i64 a) (by kernel_rfl) (fun u => by kernel_rfl) ?_
  intro U hU
  replace bk := (hU.block _ (size_of_block bk)).trans bk
  replace br := (hU.block _ (size_of_block br)).trans br
  replace hTT := own_later hTT hU
  replace s1 := (hU.cell (p := ⟨g, l1, none⟩) g2).trans s1
  replace s2 := (hU.cell (p := ⟨bs l1, l, none⟩) s3).trans s2
  replace s4 := (hU.cell (p := ⟨bs l1, a, none⟩) s3).trans s4
  replace s5 := (hU.cell (p := ⟨g, b, none⟩) g2).trans s5
  replace s6 := (hU.cell (p := ⟨bs b, l, none⟩) s7).trans s6
  replace s8 := (hU.cell (p := ⟨bs b, a, none⟩) s7).trans s8
  replace g2 := Nat.lt_of_lt_of_le g2 hU.size
  replace s3 := Nat.lt_of_lt_of_le s3 hU.size
  replace s7 := Nat.lt_of_lt_of_le s7 hU.size
  replace hB := below_then hB hU
  have hcg : ∀ (g : Gr U) b o, b < U.heap.size → g.val.cell? ⟨b, o, none⟩ = U.cell? ⟨b, o, none⟩ := fun g b o h => (bcell g.b).1 b o h
  refine wpRel_val (.int .i64 (l1 : Int)) (by kernel_rfl) (fun g => by simp [execOp, go_sem, hwl]) ?_
  refine wpRel_step (fun K hK => ?_); go_simp; refine hK _ ?_; clear hK K
  refine wpRel_step (fun K hK => ?_); go_simp; refine hK _ ?_; clear hK K
  refine wpRel_step (fun K hK => ?_); go_simp; refine hK _ ?_; clear hK K
  refine wpRel_step (fun K hK => ?_); go_simp; refine hK _ ?_; clear hK K
  refine wpRel_val (.int .i64 (-m1)) (by kernel_rfl) (fun g => by simp [execOp, go_sem, hw1]) ?_
  refine wpRel_val (.int .i64 (l1 : Int)) (by kernel_rfl) (fun g => by simp [execOp, go_sem, hwl]) ?_
  refine wpRel_step (fun K hK => ?_); go_simp; refine hK _ ?_; clear hK K
  refine wpRel_step (fun K hK => ?_); go_simp; refine hK _ ?_; clear hK K
  refine wpRel_step (fun K hK => ?_); go_simp; refine hK _ ?_; clear hK K
  refine wpRel_step (fun K hK => ?_); go_simp; refine hK _ ?_; clear hK K
  refine wpRel_val (.int .i64 (-m2)) (by kernel_rfl) (fun g => by simp [execOp, go_sem, hw2]) ?_
  refine wpRel_val (.int .i64 (min (-m1) (-m2))) (by kernel_rfl) (fun g => by simp [execOp, go_sem]) ?_
  refine wpRel_step (fun K hK => ?_); go_simp; refine hK _ ?_; clear hK K
  refine wpRel_step (fun K hK => ?_); go_simp; refine hK _ ?_; clear hK K
  refine wpRel_step (fun K hK => ?_); go_simp; refine hK _ ?_; clear hK K
  refine wpRel_step (fun K hK => ?_); go_simp; refine hK _ ?_; clear hK K
  refine wpRel_val (.int .i64 (-m3)) (by kernel_rfl) (fun g => by simp [execOp, go_sem, hw3]) ?_
  refine wpRel_step (fun K hK => ?_); go_simp; refine hK _ ?_; clear hK K
  refine wpRel_step (fun K hK => ?_); go_simp; refine hK _ ?_; clear hK K
  refine wpRel_step (fun K hK => ?_); go_simp; refine hK _ ?_; clear hK K
  refine wpRel_step (fun K hK => ?_); go_simp; refine hK _ ?_; clear hK K
  refine wpRel_val (.int .i64 (-m4)) (by kernel_rfl) (fun g => by simp [execOp, go_sem, hw4]) ?_
  refine wpRel_val (.int .i64 (min (-m3) (-m4))) (by kernel_rfl) (fun g => by simp [execOp, go_sem]) ?_
  refine wpRel_val (.int .i64 lo9) (by kernel_rfl) (fun g => by simp [execOp, go_sem]; rw [HLO.out]; omega) ?_
  refine wpRel_nil fun Vw hV => ?_
  clear hcg s1 s2 s4 s5 s6 s8 g2 s3 s7
  replace bk := (hV.block _ (size_of_block bk)).trans bk
  replace br := (hV.block _ (size_of_block br)).trans br
  replace hTT := own_later hTT hV
  replace hB := below_then hB hV
  clear hV hU
  show wpPure _ _ _ _
  intro ks hks _ _
  obtain rfl : ks = [] := List.length_eq_zero_iff.1 hks
  clear hks
  show wpList _ _ _ _ _ _
  simp only [deco]
  go_wp2_with fail
  have BK := Lib.hid bk
  have BR := Lib.hid br
  have HB0 := Lib.hid hB
  clear bk br hB hTT ds2 ds4 ds6 ds8 hw1 hw2 hw3 hw4
  go_loopw [13, 14] (fun lo hi wr => ∃ p q : Int, lo = .int .i64 p ∧ hi = .int .i64 q ∧ (0 ≤ p ∧ p ≤ q ∧ q ≤ 1048576) ∧ Hid ((p = 0 ∨ CanZ (tiesL k) ⟨(l : Int), (l : Int) + 1⟩ ⟨(a : Int), (b : Int)⟩ p) ∧ (q = 1048576 ∨ ¬ CanZ (tiesL k) ⟨(l : Int), (l : Int) + 1⟩ ⟨(a : Int), (b : Int)⟩ (q + 1))) ∧ Below Vw.heap.size Vw wr) (fun lo hi _ => (intOf hi - intOf lo).toNat)
  case atStart => exact ⟨0, 1048576, rfl, rfl, by omega, ⟨.inl rfl, .inl rfl⟩, Below.refl _ _⟩
  case round =>
    obtain ⟨p, q, rfl, rfl, ⟨hp0, hpq, hq1⟩, hmz, hbw⟩ := hrel
    have hB := below_then HB0.out hbw
    have bk := (hbw.block _ (size_of_block BK.out)).trans BK.out
    have br := (hbw.block _ (size_of_block BR.out)).trans BR.out
    by_cases hlt : p < q
    · have hwq : (p + q + 1).tdiv 2 = (p + q + 1) / 2 := Int.tdiv_eq_ediv_of_nonneg (by omega)
      have hbB := Below.refl wr.heap.size wr
      have cbk0 := Joins.cell_of_block bk 0
      have cbk1 := Joins.cell_of_block bk 1
      have cbk2 := Joins.cell_of_block bk 2
      have cbk3 := Joins.cell_of_block bk 3
      have cbk4 := Joins.cell_of_block bk 4
      have zbk := size_of_block bk
      go_wp2_with fail
      obtain ⟨md, hmd⟩ : ∃ z, z = (p + q + 1) / 2 := ⟨_, rfl⟩
      rw [← hmd]
      have hmr : p < md ∧ md ≤ q := by omega
      clear hmd hwq
      refine (HYL.out _ md wr (HK.out.later hB) (by omega)).mono ?_
      rintro e w101 ⟨u2, rfl, hT2, hF⟩
      clear cbk0 cbk1 cbk2 cbk3 cbk4 zbk
      replace bk := (hF.block _ (size_of_block bk)).trans bk
      replace br := (hF.block _ (size_of_block br)).trans br
      replace hbB := below_then hbB hF
      replace hB := below_then hB hF
      clear hF
      have hl4 : (tiesL k ++ leastT (l : Int) a b md).length ≤ 200 := by rw [List.length_append]; have : (leastT (l : Int) a b md).length = 4 := rfl; omega
      go_wp2_with fail
      refine (HYT.out md (by omega) u2 w101 (OwnTies.at_ hT2 (by omega))).mono ?_
      rintro e w102 ⟨g8, cq8, bs8, cp8, D8, rfl, _, hF⟩
      replace bk := (hF.block _ (size_of_block bk)).trans bk
      replace br := (hF.block _ (size_of_block br)).trans br
      replace hT2 := own_later hT2 hF
      replace hbB := below_then hbB hF
      replace hB := below_then hB hF
      clear hF
      obtain ⟨cb, hcb⟩ : ∃ c, c = canB (tiesL k ++ leastT (l : Int) a b md) := ⟨_, rfl⟩
      rw [← hcb]
      have HCB := Lib.hid hcb
      clear hcb hT2 hl4
      cases cb
      · go_wp2_with fail
        go_roundw
        case rel => exact ⟨p, md - 1, rfl, rfl, by omega, ⟨hmz.out.1, .inr (by rw [show md - 1 + 1 = md by omega]; exact fun h => by have := canB_least.2 h; rw [← HCB.out] at this; cases this)⟩, below_then hbw hbB⟩
        case measure => simp [intOf]; omega
      · go_wp2_with fail
        go_roundw
        case rel => exact ⟨md, q, rfl, rfl, by omega, ⟨.inr (canB_least.1 HCB.out.symm), hmz.out.2⟩, below_then hbw hbB⟩
        case measure => simp [intOf]; omega
    · obtain rfl : p = q := by omega
      have HM := Lib.hid (show MZ = p by rw [HMZ.out]; exact mostZ_of ⟨⟨by omega, by omega⟩, hmz.out.1, hmz.out.2⟩)
      have HPP := Lib.hid (fun jj : Nat => cell_setRow_same wr (w.heap.size + 1) jj _ #[.int .i64 (max 0 lo9), .int .i64 p] _ _ br)
      have HBF := Lib.hid (below_setRow hB (show w.heap.size ≤ w.heap.size + 1 by omega) #[.int .i64 (max 0 lo9), .int .i64 p])
      go_wp2_with (first | (refine wpList_store_rowTo rfl 63 _ _ rfl rfl (w.heap.size + 1) #[.int .i64 (max 0 lo9), .int .i64 p] rfl rfl 63 _ br (by kernel_rfl) rfl (by kernel_rfl) ?_))
      refine bodyPost_ret (v := .agg #[.int .i64 (max 0 lo9), .int .i64 p]) ?_ rfl ⟨by rw [HLX.out, HM.out], HBF.out⟩
      simp [results, Tryz.results119, go_sem, HPP.out]
end Go.Proofs.YtnedcclmfokdnaaGreat
