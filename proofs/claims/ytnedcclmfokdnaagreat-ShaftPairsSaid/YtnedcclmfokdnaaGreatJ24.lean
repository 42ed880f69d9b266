/- Texts joined: SFind SClash SRun SHeld SBelow SFeet SOvl SLeast SReach SMost SNetD STaking. -/
import Derived.Test.YtnedcclmfokdnaaGreatJ22
import Derived.Test.YtnedcclmfokdnaaGreatJ23
import Derived.Test.YtnedcclmfokdnaaGreatJ13
namespace Go.Proofs.YtnedcclmfokdnaaGreat
open Go Go.RowKit Go.Shelf
theorem put2b1 {w : World} {b : Nat} {t : TypeId} {p q : Value} (x : Value) (h : w.heap[b]? = some (.cells #[p, q] t)) : (w.setCell ⟨b, 0, none⟩ x).heap[b]? = some (.cells #[x, q] t) := by
  simpa using Joins.block_setCell (i := 0) h x
theorem OwnTruth.more {w : World} {B B' : Nat} {v : Value} {tl td : List Int} (h : OwnTruth w B v tl td) (hb : B' ≤ B) : OwnTruth w B' v tl td := by
  obtain ⟨a, b, e, h3, h4⟩ := h
  exact ⟨a, b, e, Joins.ownsRow_le h3 hb, Joins.ownsRow_le h4 hb⟩
def halfN (N : Nat) (M : Int → Int) : Nat → Int := fun i => if i < N then M (i : Int) else 0
theorem half_sub (frm : Int) (N : Nat) (M B : Int → Int) : ∀ j v, (hgA (halfN N M))[j]? = some v → (sprA frm N M B)[1 + j]? = some v := fun j v h => by
  have hj : j < 41 := by have := (Array.getElem?_eq_some_iff.1 h).1; rwa [hgA_size] at this
  rw [hgA_at _ hj] at h
  rw [← h]
  unfold sprA sprL
  rw [List.getElem?_toArray, Nat.add_comm, List.getElem?_cons_succ, List.getElem?_append_left (by simpa using hj), half_at N M hj]
  rfl
theorem half_rng {l : List Tie} {n : Int} {N : Nat} {frm : Int} {M B : Int → Int} (hn : n = N) (h : Settled l n frm M B) : ∀ i, i < 41 → -1152921504606846976 ≤ halfN N M i ∧ halfN N M i ≤ 1152921504606846976 := fun i _ => by
  unfold halfN
  split
  · have := h.size i (by omega) (by omega); omega
  · omega
theorem half_loads {N n : Nat} {M : Int → Int} (h : n < N) : wtF 0 n (halfN N M) n = wtL n M := wtF_loads n _ M fun i hi => by unfold halfN; rw [if_pos (by omega)]
theorem half_draws (k : Kl) {N : Nat} {M : Int → Int} (h : marksN k = N) : wtF k.ls.length k.ds.length (halfN N M) k.ds.length = wtD k M := wtF_draws k _ M fun i hi => by unfold halfN; rw [if_pos (by omega)]
noncomputable def findE (k : Kl) : Int := if checkI k ≠ 0 then checkI k else if canB (tiesL k) = true then 0 else 9
theorem marksN_nat (k : Kl) : marksN k = ((1 + k.ls.length + k.ds.length : Nat) : Int) := by unfold marksN; push_cast; rfl
set_option maxRecDepth 100000 in
set_option maxHeartbeats 4000000 in
theorem Find_c (k : Kl) (v : Value) (w : World) (hv : Kiln w v k) :
    Calls Tryz.prog 25 #[v] w fun e w' => ∃ u tl td, e = .returned (.tuple #[u, .int .i64 (findE k)]) ∧ OwnTruth w' w.heap.size u tl td ∧ (findE k = 0 → True_ k tl td) ∧ (findE k ≠ 0 → tl = [] ∧ td = []) ∧ Below w.heap.size w w' := by
  obtain ⟨A1, c1, A2, c2, A3, c3, rfl⟩ := kilnForm hv
  obtain ⟨q0, q1, -, qb⟩ := two_new' w (.cells #[.int .i64 k.room, .int .i64 k.per, .slice A1 k.ls.length c1, .slice A2 k.ds.length c2, .slice A3 k.ws.length c3] 26) (.cells #[.slice none 0 0, .slice none 0 0] 29)
  have hk := hv.later qb
  clear hv
  go_enter Tryz.func25, Tryz.ntmps25
  go_wp2_with fail
  generalize (w.alloc _).alloc _ = W1 at q0 q1 qb hk ⊢
  refine (check_c k _ W1 hk).mono ?_
  rintro e W2 ⟨rfl, hF⟩
  replace q0 := (hF.block _ (size_of_block q0)).trans q0
  replace q1 := (hF.block _ (size_of_block q1)).trans q1
  replace qb := below_then qb hF
  replace hk := hk.later hF
  clear hF
  have e0 := Joins.cell_of_block q1 0
  have e1 := Joins.cell_of_block q1 1
  have f0 := Joins.unfrozen_of_block q1 0
  have f1 := Joins.unfrozen_of_block q1 1
  have z1 := size_of_block q1
  by_cases h0 : checkI k = 0
  · have d0 : (checkI k != 0) = false := by rw [h0]; rfl
    have hR := right_of_check h0
    have HR := Lib.hid hR
    have hE : findE k = if canB (tiesL k) = true then 0 else 9 := by unfold findE; rw [if_neg (by simp [h0])]
    have HE := Lib.hid hE
    clear h0 hR hE
    have y0 := Joins.cell_of_block q0 0
    have y1 := Joins.cell_of_block q0 1
    have y2 := Joins.cell_of_block q0 2
    have y3 := Joins.cell_of_block q0 3
    have y4 := Joins.cell_of_block q0 4
    go_wp2_with fail
    refine (netOf_c k _ W2 hk HR.out).mono ?_
    rintro e W3 ⟨u, rfl, hT, hF⟩
    replace q0 := (hF.block _ (size_of_block q0)).trans q0
    replace q1 := (hF.block _ (size_of_block q1)).trans q1
    replace qb := below_then qb hF
    replace hk := hk.later hF
    obtain ⟨A, cap, rfl⟩ := Sl.form1 hT
    have hL := tiesL_len HR.out.small
    have hmn := marksN_nat k
    have hok : NetOk (tiesL k) ((1 + k.ls.length + k.ds.length : Nat) : Int) := by rw [← hmn]; exact net_ok HR.out
    have hre : Reaches (tiesL k) ((1 + k.ls.length + k.ds.length : Nat) : Int) ((0 : Nat) : Int) := by rw [← hmn]; exact net_reaches k (by omega) (by rw [hmn]; omega)
    have hS := spread_c (tiesL k) (.slice A (tiesL k).length cap) (1 + k.ls.length + k.ds.length) 0 W3 hT hok (by omega) hre (by omega)
    rw [← hmn] at hS
    have HS := Lib.hid hS
    have HMN := Lib.hid hmn
    clear hF hT hS hok hre hmn e0 e1 f0 f1 z1 y0 y1 y2 y3 y4
    generalize hN : 1 + k.ls.length + k.ds.length = N at HS HMN
    go_wp2_with fail
    refine HS.out.mono ?_
    rintro e W4 ⟨most, by_, loose, rfl, hres, hF⟩
    replace q0 := (hF.block _ (size_of_block q0)).trans q0
    replace q1 := (hF.block _ (size_of_block q1)).trans q1
    replace qb := below_then qb hF
    replace hk := hk.later hF
    clear hF HS
    obtain ⟨W5, hW5⟩ : ∃ W5, W5 = (W4.alloc (.cells Tryz.zeroCells142 142)).setRow W4.heap.size (sprA ((0 : Nat) : Int) N most by_) := ⟨_, rfl⟩
    have b5 : Below W4.heap.size W4 W5 := by rw [hW5]; exact below_setRow (below_alloc _ _) (Nat.le_refl _) _
    have r5 : W5.heap[W4.heap.size]? = some (.cells (sprA ((0 : Nat) : Int) N most by_) 142) := by rw [hW5]; exact setRow_heap _ _ _ _ _ _ (heap_alloc_new W4 _)
    have HW5 := Lib.hid hW5
    replace q0 := (b5.block _ (size_of_block q0)).trans q0
    replace q1 := (b5.block _ (size_of_block q1)).trans q1
    replace qb := below_then qb b5
    replace hk := hk.later b5
    clear b5 hW5
    have y0 := Joins.cell_of_block q0 0
    have y1 := Joins.cell_of_block q0 1
    have y2 := Joins.cell_of_block q0 2
    have y3 := Joins.cell_of_block q0 3
    have y4 := Joins.cell_of_block q0 4
    have e0 := Joins.cell_of_block q1 0
    have e1 := Joins.cell_of_block q1 1
    have f0 := Joins.unfrozen_of_block q1 0
    have f1 := Joins.unfrozen_of_block q1 1
    have z1 := size_of_block q1
    have z0 := size_of_block q0
    rcases hres with ⟨rfl, hs⟩ | hs
    · have HC : Hid (findE k = 0) := by
        show findE k = 0
        rw [HE.out, if_pos (canB_true.2 ⟨most, hs.keeps⟩)]
      have hlr := half_rng HMN.out hs
      have n1 := HR.out.ls
      have n2 := HR.out.ds
      have hkp := Lib.hid hs.keeps
      have HT2 := fun W (hW : Kiln W (.agg #[.int .i64 k.room, .int .i64 k.per, .slice A1 k.ls.length c1, .slice A2 k.ds.length c2, .slice A3 k.ws.length c3]) k) => truthOf_c k (.agg #[.int .i64 k.room, .int .i64 k.per, .slice A1 k.ls.length c1, .slice A2 k.ds.length c2, .slice A3 k.ws.length c3]) (halfN N most) W hW (by omega) (by omega) hlr
      rw [half_loads (show k.ls.length < N by omega), half_draws k HMN.out] at HT2
      have HT3 := Lib.hid HT2
      clear hs hlr HT2
      go_wp2_with (first | (refine wpList_store_rowTo rfl 142 _ _ rfl rfl W4.heap.size (sprA ((0 : Nat) : Int) N most by_) rfl rfl 142 _ (heap_alloc_new W4 _) (by kernel_rfl) (by rw [sprA_size]; kernel_rfl) (by rw [sprA_size]; kernel_rfl) ?_; rw [← HW5.out]) | (refine wpList_load_part rfl 124 _ rfl W4.heap.size 1 rfl 142 (sprA ((0 : Nat) : Int) N most by_) (hgA (halfN N most)) (0, 0) _ r5 (half_sub _ _ _ _) Tryz.underlying124 rfl (by rw [hgA_size]; kernel_rfl) ?_; try simp only [Act.put, List.setIfInBounds_toArray, List.set_cons_zero, List.set_cons_succ]))
      refine (HT3.out W5 hk).mono ?_
      rintro e W6 ⟨u6, rfl, hO, hF⟩
      obtain ⟨Aa, ca, Ab, cb, rfl⟩ := hO.form
      rw [wtL_len, wtD_len] at *
      have hTR := true_wt HR.out hkp.out
      have HTR := Lib.hid hTR
      replace q1 := (hF.block _ (size_of_block q1)).trans q1
      replace hO := hO.more qb.size
      replace qb := below_then qb hF
      have HOO := Lib.hid ((hO.setCell q1 (by decide) 0 (.slice Aa k.ls.length ca)).setCell (put2b1 (.slice Aa k.ls.length ca) q1) (by decide) 1 (.slice Ab k.ds.length cb))
      clear hF hTR e0 e1 f0 f1 z1 z0 y0 y1 y2 y3 y4 r5 HW5 q0 hO
      have e0 := Joins.cell_of_block q1 0
      have e1 := Joins.cell_of_block q1 1
      have f0 := Joins.unfrozen_of_block q1 0
      have f1 := Joins.unfrozen_of_block q1 1
      have z1 := size_of_block q1
      have HPP := Lib.hid (put2 (.slice Aa k.ls.length ca) (.slice Ab k.ds.length cb) q1)
      go_wp2_with fail
      refine bodyPost_ret (v := .tuple #[.agg #[.slice Aa k.ls.length ca, .slice Ab k.ds.length cb], .int .i64 0]) ?_ rfl ⟨_, wtL k.ls.length most, wtD k most, by rw [HC.out], HOO.out, fun _ => HTR.out, fun h => absurd HC.out h, below_set (below_set qb (by omega)) (by omega)⟩
      simp [results, Tryz.results25, go_sem, HPP.out.1, HPP.out.2]
    · have HC : Hid (findE k = 9) := by
        show findE k = 9
        obtain ⟨c, hc⟩ := hs.circle
        rw [HE.out, if_neg (by rw [canB_true]; exact can_circle hc)]
      have hl1 : (loose != -1) = true := by rw [bne_iff_ne]; have := hs.rng.1; omega
      have HPP := Lib.hid (put2 (.slice none 0 0) (.slice none 0 0) q1)
      clear hs
      go_wp2_with (refine wpList_store_rowTo rfl 142 _ _ rfl rfl W4.heap.size (sprA ((0 : Nat) : Int) N most by_) rfl rfl 142 _ (heap_alloc_new W4 _) (by kernel_rfl) (by rw [sprA_size]; kernel_rfl) (by rw [sprA_size]; kernel_rfl) ?_; rw [← HW5.out])
      refine bodyPost_ret (v := .tuple #[.agg #[.slice none 0 0, .slice none 0 0], .int .i64 9]) ?_ rfl ⟨_, [], [], by rw [HC.out], OwnTruth.nil_ _ _, (fun h => (by rw [HC.out] at h; cases h)), fun _ => ⟨rfl, rfl⟩, below_set (below_set qb (by omega)) (by omega)⟩
      simp [results, Tryz.results25, go_sem, HPP.out.1, HPP.out.2]
  · have d0 : (checkI k != 0) = true := by simpa using h0
    have HE := Lib.hid (show findE k = checkI k from if_pos h0)
    have HN0 := Lib.hid h0
    clear h0
    have HPP := Lib.hid (put2 (.slice none 0 0) (.slice none 0 0) q1)
    go_wp2_with fail
    refine bodyPost_ret (v := .tuple #[.agg #[.slice none 0 0, .slice none 0 0], .int .i64 (checkI k)]) ?_ rfl ⟨_, [], [], by rw [HE.out], OwnTruth.nil_ _ _, (fun h => absurd (HE.out ▸ h) HN0.out), fun _ => ⟨rfl, rfl⟩, below_set (below_set qb (by omega)) (by omega)⟩
    simp [results, Tryz.results25, go_sem, HPP.out.1, HPP.out.2]
end Go.Proofs.YtnedcclmfokdnaaGreat
namespace Go.Proofs.YtnedcclmfokdnaaGreat
open Go Go.RowKit Go.Shelf
def mN (k : Kl) : Nat := 1 + k.ls.length + k.ds.length
theorem mN_eq (k : Kl) : marksN k = (mN k : Int) := marksN_nat k
theorem mN_le {k : Kl} (h : Right k) : mN k ≤ 41 := by have := h.ls; have := h.ds; unfold mN; omega
theorem spreadK_c (k : Kl) (A : Option Addr) (cap frm : Nat) (w : World) (hR : Right k) (hf : frm < mN k) (hT : TiesAt w w.heap.size (.slice A (tiesL k).length cap) (tiesL k)) :
    Calls Tryz.prog 88 #[.agg #[.int .i64 (marksN k), .slice A (tiesL k).length cap], .int .i64 frm] w fun e w' => ∃ most by_ loose, e = .returned (.tuple #[.agg (sprA frm (mN k) most by_), .int .i64 loose]) ∧
      (loose = -1 ∧ Settled (tiesL k) (marksN k) frm most by_ ∧ canB (tiesL k) = true ∨ Loose (tiesL k) (marksN k) by_ loose ∧ loose ≠ -1 ∧ canB (tiesL k) = false) ∧ Below w.heap.size w w' := by
  have hmn := mN_eq k
  have hok : NetOk (tiesL k) (mN k : Nat) := by rw [← hmn]; exact net_ok hR
  have hre : Reaches (tiesL k) (mN k : Nat) (frm : Nat) := by rw [← hmn]; exact net_reaches k (by omega) (by rw [hmn]; omega)
  have hS := spread_c (tiesL k) (.slice A (tiesL k).length cap) (mN k) frm w hT hok hf hre (by have := tiesL_len hR.small; omega)
  rw [← hmn] at hS
  refine hS.mono ?_
  rintro e w' ⟨m, b, l, rfl, h, hb⟩
  refine ⟨m, b, l, rfl, ?_, hb⟩
  rcases h with ⟨rfl, hs⟩ | hs
  · exact .inl ⟨rfl, hs, canB_true.2 ⟨m, hs.keeps⟩⟩
  · obtain ⟨c, hc⟩ := hs.circle
    exact .inr ⟨hs, by have := hs.rng.1; omega, canB_false.2 (can_circle hc)⟩
noncomputable def clashB (k : Kl) : Bool := (checkI k == 0) && !canB (tiesL k)
set_option maxRecDepth 100000 in
set_option maxHeartbeats 4000000 in
theorem Clash_c (k : Kl) (v : Value) (w : World) (hv : Kiln w v k) :
    Calls Tryz.prog 26 #[v] w fun e w' => ∃ u p, e = .returned (.tuple #[u, .bool (clashB k), .int .i64 (checkI k)]) ∧ w'.ownsRow w.heap.size 3 1 u p.length (p.map (Value.int .i64)) ∧ (clashB k = true → clashI k p = 0 ∧ p.length ≤ 41) ∧ (clashB k = false → p = []) ∧ Below w.heap.size w w' := by
  obtain ⟨A1, c1, A2, c2, A3, c3, rfl⟩ := kilnForm hv
  have q0 := heap_alloc_new w (.cells #[.int .i64 k.room, .int .i64 k.per, .slice A1 k.ls.length c1, .slice A2 k.ds.length c2, .slice A3 k.ws.length c3] 26)
  have qb := below_alloc w (.cells #[.int .i64 k.room, .int .i64 k.per, .slice A1 k.ls.length c1, .slice A2 k.ds.length c2, .slice A3 k.ws.length c3] 26)
  have hk := hv.later qb
  clear hv
  go_enter Tryz.func26, Tryz.ntmps26
  go_wp2_with fail
  generalize w.alloc _ = W1 at q0 qb hk ⊢
  refine (check_c k _ W1 hk).mono ?_
  rintro e W2 ⟨rfl, hF⟩
  replace q0 := (hF.block _ (size_of_block q0)).trans q0
  replace qb := below_then qb hF
  replace hk := hk.later hF
  clear hF
  by_cases h0 : checkI k = 0
  · have d0 : (checkI k != 0) = false := by rw [h0]; rfl
    have HR := Lib.hid (right_of_check h0)
    have HE := Lib.hid (show clashB k = !canB (tiesL k) by unfold clashB; rw [h0]; rfl)
    have H0 := Lib.hid h0
    clear h0
    have y0 := Joins.cell_of_block q0 0
    have y1 := Joins.cell_of_block q0 1
    have y2 := Joins.cell_of_block q0 2
    have y3 := Joins.cell_of_block q0 3
    have y4 := Joins.cell_of_block q0 4
    go_wp2_with fail
    refine (netOf_c k _ W2 hk HR.out).mono ?_
    rintro e W3 ⟨u, rfl, hT, hF⟩
    replace qb := below_then qb hF
    obtain ⟨A, cap, rfl⟩ := Sl.form1 hT
    have n0 := heap_alloc_new W3 (.cells #[.int .i64 (marksN k), .slice A (tiesL k).length cap] 145)
    have nb := below_alloc W3 (.cells #[.int .i64 (marksN k), .slice A (tiesL k).length cap] 145)
    replace hT := hT.later nb
    replace qb := below_then qb nb
    clear hF hk q0 y0 y1 y2 y3 y4 nb
    go_wp2_with fail
    generalize W3.alloc _ = W3b at n0 hT qb ⊢
    have x0 := Joins.cell_of_block n0 0
    have x1 := Joins.cell_of_block n0 1
    have hS := spreadK_c k A cap 0 W3b HR.out (by unfold mN; omega) hT
    have HS := Lib.hid hS
    clear hS
    go_wp2_with fail
    refine HS.out.mono ?_
    rintro e W4 ⟨most, by_, loose, rfl, hres, hF⟩
    replace n0 := (hF.block _ (size_of_block n0)).trans n0
    replace qb := below_then qb hF
    replace hT := hT.later hF
    clear hF HS x0 x1
    obtain ⟨W5, hW5⟩ : ∃ W5, W5 = (W4.alloc (.cells Tryz.zeroCells142 142)).setRow W4.heap.size (sprA ((0 : Nat) : Int) (mN k) most by_) := ⟨_, rfl⟩
    have b5 : Below W4.heap.size W4 W5 := by rw [hW5]; exact below_setRow (below_alloc _ _) (Nat.le_refl _) _
    have r5 : W5.heap[W4.heap.size]? = some (.cells (sprA ((0 : Nat) : Int) (mN k) most by_) 142) := by rw [hW5]; exact setRow_heap _ _ _ _ _ _ (heap_alloc_new W4 _)
    have HW5 := Lib.hid hW5
    replace n0 := (b5.block _ (size_of_block n0)).trans n0
    replace qb := below_then qb b5
    replace hT := hT.later b5
    clear b5 hW5
    have x0 := Joins.cell_of_block n0 0
    have x1 := Joins.cell_of_block n0 1
    have z0 := size_of_block n0
    rcases hres with ⟨rfl, hs, hc⟩ | ⟨hs, hl, hc⟩
    · have HC := Lib.hid (show clashB k = false by rw [HE.out, hc]; rfl)
      clear hs hc
      go_wp2_with (refine wpList_store_rowTo rfl 142 _ _ rfl rfl W4.heap.size (sprA ((0 : Nat) : Int) (mN k) most by_) rfl rfl 142 _ (heap_alloc_new W4 _) (by kernel_rfl) (by rw [sprA_size]; kernel_rfl) (by rw [sprA_size]; kernel_rfl) ?_; rw [← HW5.out])
      refine bodyPost_ret (v := .tuple #[.slice none 0 0, .bool false, .int .i64 0]) (by simp [results, Tryz.results26, go_sem]) rfl ?_
      exact ⟨_, [], by rw [HC.out, H0.out], World.ownsRow_nil _ _ _ _, fun h => (by rw [HC.out] at h; cases h), fun _ => rfl, qb⟩
    · have HC := Lib.hid (show clashB k = true by rw [HE.out, hc]; rfl)
      have hl1 : (loose == -1) = false := by rw [beq_eq_false_iff_ne]; exact hl
      obtain ⟨ln, hln⟩ : ∃ ln : Nat, loose = ln := ⟨loose.toNat, by have := hs.rng.1; omega⟩
      rw [hln] at hs
      have hok : NetOk (tiesL k) (mN k : Nat) := by rw [← mN_eq]; exact net_ok HR.out
      have hci := circle_c (tiesL k) (.slice A (tiesL k).length cap) (mN k) 0 ln most by_ W5 hT hok (by rw [← mN_eq]; exact hs)
      rw [← mN_eq, ← hln] at hci
      have HCI := Lib.hid hci
      clear hs hc hl hok hci hln
      go_wp2_with (first | (refine wpList_store_rowTo rfl 142 _ _ rfl rfl W4.heap.size (sprA ((0 : Nat) : Int) (mN k) most by_) rfl rfl 142 _ (heap_alloc_new W4 _) (by kernel_rfl) (by rw [sprA_size]; kernel_rfl) (by rw [sprA_size]; kernel_rfl) ?_; rw [← HW5.out]) | (refine wpList_load_row rfl 142 _ rfl W4.heap.size rfl 142 (sprA ((0 : Nat) : Int) (mN k) most by_) (0, 0) _ r5 Tryz.underlying142 rfl (by rw [sprA_size]; kernel_rfl) ?_; try simp only [Act.put, List.setIfInBounds_toArray, List.set_cons_zero, List.set_cons_succ]))
      refine HCI.out.mono ?_
      rintro e W6 ⟨x, p, rfl, hp, hp2, hO, hF⟩
      have BQ := qb.size
      replace qb := below_then qb hF
      clear hF HCI
      go_wp2_with fail
      refine bodyPost_ret (v := .tuple #[x, .bool true, .int .i64 0]) (by simp [results, Tryz.results26, go_sem]) rfl ?_
      have hcl : clashI k p = 0 := by unfold clashI; rw [if_neg (by simp [H0.out]), if_neg (by omega)]; exact hp
      exact ⟨_, p, by rw [HC.out, H0.out], Joins.ownsRow_le hO BQ, fun _ => ⟨hcl, hp2⟩, fun h => (by rw [HC.out] at h; cases h), qb⟩
  · have d0 : (checkI k != 0) = true := by simpa using h0
    have HC := Lib.hid (show clashB k = false by unfold clashB; rw [show (checkI k == 0) = false by simpa using h0]; rfl)
    clear h0
    go_wp2_with fail
    refine bodyPost_ret (v := .tuple #[.slice none 0 0, .bool false, .int .i64 (checkI k)]) (by simp [results, Tryz.results26, go_sem]) rfl ?_
    exact ⟨_, [], by rw [HC.out], World.ownsRow_nil _ _ _ _, fun h => (by rw [HC.out] at h; cases h), fun _ => rfl, qb⟩
end Go.Proofs.YtnedcclmfokdnaaGreat
namespace Go.Proofs.YtnedcclmfokdnaaGreat
open Go Go.RowKit Go.Shelf
attribute [local go_sem] Oper.semAt_some Rel RelAt RelUpon
theorem endsK_c (k : Kl) (u : Value) (a b : Int) (w : World) (hR : Right k) (ha : 0 ≤ a ∧ a < marksN k) (hb : 0 ≤ b ∧ b < marksN k) (hT : TiesAt w w.heap.size u (tiesL k)) :
    Calls Tryz.prog 104 #[.agg #[.int .i64 (marksN k), u], .agg #[.int .i64 a, .int .i64 b]] w fun e w' => e = .returned (.tuple #[.agg #[.int .i64 (betw k a b).1.1, .int .i64 (betw k a b).1.2], .int .i64 (betw k a b).2]) ∧ Below w.heap.size w w' := by
  have hmn := mN_eq k
  obtain ⟨x, rfl⟩ : ∃ x : Nat, a = x := ⟨a.toNat, by omega⟩
  obtain ⟨y, rfl⟩ : ∃ y : Nat, b = y := ⟨b.toNat, by omega⟩
  have hok : NetOk (tiesL k) (mN k : Nat) := by rw [← hmn]; exact net_ok hR
  have hra : Reaches (tiesL k) (mN k : Nat) (x : Nat) := by rw [← hmn]; exact net_reaches k ha.1 ha.2
  have hrb : Reaches (tiesL k) (mN k : Nat) (y : Nat) := by rw [← hmn]; exact net_reaches k hb.1 hb.2
  have h := netEnds_c (tiesL k) u (mN k) x y w hT hok (by omega) (by omega) hra hrb (by have := tiesL_len hR.small; omega)
  rw [← hmn] at h
  refine h.mono ?_
  rintro e w' ⟨lo, hi, E, rfl, h, hF⟩
  refine ⟨?_, hF⟩
  unfold betw
  rcases h with ⟨rfl, rfl, rfl, c, hc⟩ | ⟨rfl, ma, ba, mb, bb, h1, h2, rfl, rfl⟩
  · rw [if_neg (by rw [canB_true]; exact can_circle hc)]
  · rw [if_pos (canB_true.2 ⟨ma, h1.keeps⟩), dst_settled h1 (by omega) (by omega), dst_settled h2 (by omega) (by omega)]
theorem runM_rng (k : Kl) (f t : Int) (h : (runM k f t).2 = 0) : (0 ≤ (runM k f t).1.1 ∧ (runM k f t).1.1 < marksN k) ∧ 0 ≤ (runM k f t).1.2 ∧ (runM k f t).1.2 < marksN k := by
  have key : ∀ (l : List Rec) (bs : Int), 0 ≤ bs → bs + l.length < marksN k → (runI l bs f t).2 = 0 → (0 ≤ (runI l bs f t).1.1 ∧ (runI l bs f t).1.1 < marksN k) ∧ 0 ≤ (runI l bs f t).1.2 ∧ (runI l bs f t).1.2 < marksN k := fun l bs h0 h1 h => by
    have a := place_range l f
    have b := place_range l t
    unfold runI at h ⊢
    split at h
    · simp at h
    · split at h
      · simp at h
      · rename_i h2 h3
        rw [if_neg h2, if_neg h3]
        unfold markB
        constructor
        · split <;> simp only <;> omega
        · split <;> simp only <;> omega
  unfold runM at h ⊢
  by_cases e : (runI k.ls 0 f t).2 = 5
  · rw [if_pos e] at h ⊢
    exact key k.ds k.ls.length (by omega) (by unfold marksN; omega) h
  · rw [if_neg e] at h ⊢
    exact key k.ls 0 (by omega) (by unfold marksN; omega) h
set_option maxRecDepth 100000 in
set_option maxHeartbeats 4000000 in
theorem Run_c (k : Kl) (v : Value) (f t : Int) (w : World) (hv : Kiln w v k) :
    Calls Tryz.prog 37 #[v, .int .i64 f, .int .i64 t] w fun e w' => e = .returned (.tuple #[.agg #[.int .i64 (runE k f t).1.1, .int .i64 (runE k f t).1.2], .int .i64 (runE k f t).2]) ∧ Below w.heap.size w w' := by
  obtain ⟨A1, c1, A2, c2, A3, c3, rfl⟩ := kilnForm hv
  obtain ⟨q0, q1, -, qb⟩ := two_new' w (.cells #[.int .i64 k.room, .int .i64 k.per, .slice A1 k.ls.length c1, .slice A2 k.ds.length c2, .slice A3 k.ws.length c3] 26) (.cells #[.int .i64 0, .int .i64 0] 63)
  have HKB := Lib.hid hv.toB
  have hk := hv.later qb
  clear hv
  go_enter Tryz.func37, Tryz.ntmps37
  go_wp2_with fail
  generalize (w.alloc _).alloc _ = W1 at q0 q1 qb hk ⊢
  refine (check_c k _ W1 hk).mono ?_
  rintro e W2 ⟨rfl, hF⟩
  replace q0 := (hF.block _ (size_of_block q0)).trans q0
  replace q1 := (hF.block _ (size_of_block q1)).trans q1
  replace qb := below_then qb hF
  replace hk := hk.later hF
  clear hF
  by_cases h0 : checkI k = 0
  · have d0 : (checkI k != 0) = false := by rw [h0]; rfl
    have HR := Lib.hid (right_of_check h0)
    have HE := Lib.hid (show runE k f t = if (runM k f t).2 ≠ 0 then ((0, 0), (runM k f t).2) else betw k (runM k f t).1.1 (runM k f t).1.2 by unfold runE; rw [if_neg (by simp [h0])])
    have HM : Hid (runM k f t = if (runI k.ls 0 f t).2 = 5 then runI k.ds k.ls.length f t else runI k.ls 0 f t) := rfl
    have HRG : Hid ((runM k f t).2 = 0 → (0 ≤ (runM k f t).1.1 ∧ (runM k f t).1.1 < marksN k) ∧ 0 ≤ (runM k f t).1.2 ∧ (runM k f t).1.2 < marksN k) := runM_rng k f t
    clear h0
    obtain ⟨al, ad, aw, e9, hl, hd, hw9⟩ := id hk
    obtain ⟨rfl, rfl, rfl⟩ : .slice A1 k.ls.length c1 = al ∧ .slice A2 k.ds.length c2 = ad ∧ .slice A3 k.ws.length c3 = aw := by simpa using e9
    have HL := Lib.hid hl
    have HD := Lib.hid hd
    have n1 := HR.out.ls
    have HNL := Lib.hid HR.out.noL
    have HND := Lib.hid HR.out.noD
    clear e9 hl hd hw9
    have y0 := Joins.cell_of_block q0 0
    have y1 := Joins.cell_of_block q0 1
    have y2 := Joins.cell_of_block q0 2
    have y3 := Joins.cell_of_block q0 3
    have y4 := Joins.cell_of_block q0 4
    go_wp2_with fail
    refine (loadsV _ _ _ _ _ _ _ W2).mono ?_
    rintro e W3 ⟨rfl, hF⟩
    replace q0 := (hF.block _ (size_of_block q0)).trans q0
    replace q1 := (hF.block _ (size_of_block q1)).trans q1
    replace qb := below_then qb hF
    replace hk := hk.later hF
    have hl := HL.out.later hF
    have hd := HD.out.later hF
    clear hF HL HD y0 y1 y2 y3 y4
    have hr := runL_c k.ls (.slice A1 k.ls.length c1) 0 f t W3 hl (by omega) HNL.out
    generalize runI k.ls 0 f t = RL at hr HM
    obtain ⟨⟨ra, rb⟩, re⟩ := RL
    dsimp only at hr HM
    have HRC := Lib.hid hr
    clear hr hl
    go_wp2_with fail
    refine HRC.out.mono ?_
    rintro e W4 ⟨rfl, hF⟩
    replace q0 := (hF.block _ (size_of_block q0)).trans q0
    replace q1 := (hF.block _ (size_of_block q1)).trans q1
    replace qb := below_then qb hF
    replace hk := hk.later hF
    replace hd := hd.later hF
    clear hF HRC
    have BQ := size_of_block q1
    have hz0 := heap_alloc_new W4 (.cells #[.int .i64 0, .int .i64 0] 160)
    obtain ⟨W5, hW5⟩ : ∃ W5, W5 = (W4.alloc (.cells #[.int .i64 0, .int .i64 0] 160)).setRow W4.heap.size #[.int .i64 ra, .int .i64 rb] := ⟨_, rfl⟩
    have pb : Below W4.heap.size W4 W5 := by rw [hW5]; exact below_setRow (below_alloc _ _) (Nat.le_refl _) _
    have p0 : W5.heap[W4.heap.size]? = some (.cells #[.int .i64 ra, .int .i64 rb] 160) := by rw [hW5]; exact setRow_heap _ _ _ _ _ _ hz0
    have HW5 := Lib.hid hW5
    replace q0 := (pb.block _ (size_of_block q0)).trans q0
    replace q1 := (pb.block _ (size_of_block q1)).trans q1
    replace qb := below_then qb pb
    replace hk := hk.later pb
    replace hd := hd.later pb
    clear pb hW5
    by_cases h5 : re = 5
    · have d5 : (re == 5) = true := by rw [h5]; rfl
      rw [if_pos h5] at HM
      have hdc := fun W h => runD_c k.ds (.slice A2 k.ds.length c2) k.ls.length f t W h (by omega) HND.out
      generalize runI k.ds k.ls.length f t = RD at hdc HM
      obtain ⟨⟨da, db⟩, de⟩ := RD
      dsimp only at hdc HM
      have HDC := Lib.hid hdc
      have y0 := Joins.cell_of_block q0 0
      have y1 := Joins.cell_of_block q0 1
      have y2 := Joins.cell_of_block q0 2
      have y3 := Joins.cell_of_block q0 3
      have y4 := Joins.cell_of_block q0 4
      have zq0 := size_of_block q0
      clear h5 hdc
      go_wp2_with (refine wpList_store_rowTo rfl 160 _ _ rfl rfl W4.heap.size #[.int .i64 ra, .int .i64 rb] rfl rfl 160 _ hz0 (by kernel_rfl) rfl (by kernel_rfl) ?_; rw [← HW5.out])
      clear hz0 HW5
      refine (drawsV _ _ _ _ _ _ _ _ _ W5).mono ?_
      rintro e W6 ⟨rfl, hF⟩
      replace p0 := (hF.block _ (size_of_block p0)).trans p0
      replace q0 := (hF.block _ (size_of_block q0)).trans q0
      replace q1 := (hF.block _ (size_of_block q1)).trans q1
      replace qb := below_then qb hF
      replace hk := hk.later hF
      replace hd := hd.later hF
      clear hF y0 y1 y2 y3 y4 zq0
      go_wp2_with fail
      refine (HDC.out W6 hd).mono ?_
      rintro e W7 ⟨rfl, hF⟩
      replace p0 := (hF.block _ (size_of_block p0)).trans p0
      replace q0 := (hF.block _ (size_of_block q0)).trans q0
      replace q1 := (hF.block _ (size_of_block q1)).trans q1
      replace qb := below_then qb hF
      replace hk := hk.later hF
      clear hF HDC hd
      obtain ⟨W8, hW8⟩ : ∃ W8, W8 = W7.setRow W4.heap.size #[.int .i64 da, .int .i64 db] := ⟨_, rfl⟩
      have p8 : W8.heap[W4.heap.size]? = some (.cells #[.int .i64 da, .int .i64 db] 160) := by rw [hW8]; exact setRow_heap _ _ _ _ _ _ p0
      have e8 : W8.heap[w.heap.size]? = W7.heap[w.heap.size]? := by rw [hW8]; exact setRow_other W7 W4.heap.size w.heap.size _ (by omega)
      have e9 : W8.heap[w.heap.size + 1]? = W7.heap[w.heap.size + 1]? := by rw [hW8]; exact setRow_other W7 W4.heap.size (w.heap.size + 1) _ (by omega)
      replace q0 := e8.trans q0
      replace q1 := e9.trans q1
      clear e8 e9
      replace qb : Below w.heap.size w W8 := by rw [hW8]; exact below_setRow qb (by omega) _
      have p7 := p0
      replace p0 := p8
      replace hk := (HKB.out.below qb).kiln qb.size
      have HW8 := Lib.hid hW8
      clear hW8 p8
      by_cases hz : de = 0
      · have dz : (de != 0) = false := by rw [hz]; rfl
        have hrg := HRG.out (by rw [HM.out]; exact hz)
        rw [HM.out] at hrg
        have HEE := Lib.hid (show runE k f t = betw k da db by rw [HE.out, HM.out, if_neg (by simp [hz])])
        have hec := fun u W h => endsK_c k u da db W HR.out hrg.1 hrg.2 h
        have HEC := Lib.hid hec
        clear hec hrg hz
        go_wp2_with (refine wpList_store_rowTo rfl 160 _ _ rfl rfl W4.heap.size #[.int .i64 da, .int .i64 db] rfl rfl 160 _ p7 (by kernel_rfl) rfl (by kernel_rfl) ?_; rw [← HW8.out])
        clear p7 HW8
        refine wp_region_looseM [] [0, 2] (.one 1 (.one 3 .done)) [] [4, 5] [6, 7] [] [] (by kernel_rfl) (by kernel_rfl) (by intro c a d v w h; cases d <;> exact h) (by intro c a d v w h; cases d <;> exact h) rfl (fun r i h => by simp at h) ?_
        simp only [pick, List.filterMap_cons, List.filterMap_nil, List.getElem?_toArray, List.getElem?_cons_succ, List.getElem?_cons_zero]
        intro u1 hu1
        replace p0 := (hu1.block _ (size_of_block p0)).trans p0
        replace q0 := (hu1.block _ (size_of_block q0)).trans q0
        replace q1 := (hu1.block _ (size_of_block q1)).trans q1
        replace hk := hk.later hu1
        replace qb := below_then qb hu1
        have cq00 := Joins.cell_of_block q0 0
        have cq01 := Joins.cell_of_block q0 1
        have cq02 := Joins.cell_of_block q0 2
        have cq03 := Joins.cell_of_block q0 3
        have cq04 := Joins.cell_of_block q0 4
        have zq0 := size_of_block q0
        have cp00 := Joins.cell_of_block p0 0
        have cp01 := Joins.cell_of_block p0 1
        have zp0 := size_of_block p0
        have hcg : ∀ (g : Gr u1) b o, b < u1.heap.size → g.val.cell? ⟨b, o, none⟩ = u1.cell? ⟨b, o, none⟩ := fun g b o h => (bcell g.b).1 b o h
        iterate 2 (refine wpRel_step (fun K hK => ?_); go_simp; refine hK _ ?_; clear hK K)
        refine wpRel_nil fun V1_0 hb1 => ?_
        clear hcg cq00 cq01 cq02 cq03 cq04 zq0 cp00 cp01 zp0
        replace p0 := (hb1.block _ (size_of_block p0)).trans p0
        replace q0 := (hb1.block _ (size_of_block q0)).trans q0
        replace q1 := (hb1.block _ (size_of_block q1)).trans q1
        replace hk := hk.later hb1
        replace qb := below_then qb hb1
        clear hb1 hu1
        refine wpTr_step rfl rfl fun K hK => ?_
        go_simp
        refine (netOf_c k _ V1_0 hk HR.out).mono ?_
        rintro e X ⟨u, rfl, hT, hx⟩
        refine hK _ _ hx fun V1_1 hu => ?_
        clear hK K
        have hxu := below_then hx hu
        try replace hT := hT.later hu
        replace p0 := (hxu.block _ (size_of_block p0)).trans p0
        replace q0 := (hxu.block _ (size_of_block q0)).trans q0
        replace q1 := (hxu.block _ (size_of_block q1)).trans q1
        replace hk := hk.later hxu
        replace qb := below_then qb hxu
        clear hx hu hxu
        refine wpTr_step rfl rfl fun K hK => ?_
        go_simp
        refine (HEC.out u V1_1 hT).mono ?_
        rintro e X ⟨rfl, hx⟩
        refine hK _ _ hx fun V1_2 hu => ?_
        clear hK K
        have hxu := below_then hx hu
        try replace hT := hT.later hu
        replace p0 := (hxu.block _ (size_of_block p0)).trans p0
        replace q0 := (hxu.block _ (size_of_block q0)).trans q0
        replace q1 := (hxu.block _ (size_of_block q1)).trans q1
        replace hk := hk.later hxu
        replace qb := below_then qb hxu
        clear hx hu hxu
        show wpPure _ _ _ _
        refine wpPure_step (.agg #[.int .i64 (betw k da db).1.1, .int .i64 (betw k da db).1.2]) rfl (fun u => rfl) ?_
        refine wpPure_step (.int .i64 (betw k da db).2) rfl (fun u => rfl) ?_
        intro ks hks _ _
        obtain rfl : ks = [] := List.length_eq_zero_iff.1 hks
        clear hks
        show wpList _ _ _ _ _ _
        simp only [deco]
        have e0 := Joins.cell_of_block q1 0
        have e1 := Joins.cell_of_block q1 1
        have f0 := Joins.unfrozen_of_block q1 0
        have f1 := Joins.unfrozen_of_block q1 1
        have zbx := size_of_block q1
        have HPP := Lib.hid (put2 (.int .i64 ((betw k da db).1.1)) (.int .i64 ((betw k da db).1.2)) q1)
        go_wp2_with fail
        refine bodyPost_ret (v := .tuple #[.agg #[.int .i64 ((betw k da db).1.1), .int .i64 ((betw k da db).1.2)], .int .i64 ((betw k da db).2)]) ?_ rfl ⟨by rw [HEE.out], below_set (below_set qb (by omega)) (by omega)⟩
        simp [results, Tryz.results37, go_sem, HPP.out.1, HPP.out.2]
      · have dz : (de != 0) = true := by simpa using hz
        have HEE := Lib.hid (show runE k f t = ((0, 0), de) by rw [HE.out, HM.out, if_pos (by simpa using hz)])
        clear hz
        have e0 := Joins.cell_of_block q1 0
        have e1 := Joins.cell_of_block q1 1
        have f0 := Joins.unfrozen_of_block q1 0
        have f1 := Joins.unfrozen_of_block q1 1
        have zbx := size_of_block q1
        have HPP := Lib.hid (put2 (.int .i64 (0)) (.int .i64 (0)) q1)
        go_wp2_with (refine wpList_store_rowTo rfl 160 _ _ rfl rfl W4.heap.size #[.int .i64 da, .int .i64 db] rfl rfl 160 _ p7 (by kernel_rfl) rfl (by kernel_rfl) ?_; rw [← HW8.out])
        refine bodyPost_ret (v := .tuple #[.agg #[.int .i64 (0), .int .i64 (0)], .int .i64 (de)]) ?_ rfl ⟨by rw [HEE.out], below_set (below_set qb (by omega)) (by omega)⟩
        simp [results, Tryz.results37, go_sem, HPP.out.1, HPP.out.2]
    · have d5 : (re == 5) = false := by simpa using h5
      rw [if_neg h5] at HM
      clear h5 hd
      by_cases hz : re = 0
      · have dz : (re != 0) = false := by rw [hz]; rfl
        have hrg := HRG.out (by rw [HM.out]; exact hz)
        rw [HM.out] at hrg
        have HEE := Lib.hid (show runE k f t = betw k ra rb by rw [HE.out, HM.out, if_neg (by simp [hz])])
        have hec := fun u W h => endsK_c k u ra rb W HR.out hrg.1 hrg.2 h
        have HEC := Lib.hid hec
        clear hec hrg hz
        go_wp2_with (refine wpList_store_rowTo rfl 160 _ _ rfl rfl W4.heap.size #[.int .i64 ra, .int .i64 rb] rfl rfl 160 _ hz0 (by kernel_rfl) rfl (by kernel_rfl) ?_; rw [← HW5.out])
        clear hz0 HW5
        refine wp_region_looseM [] [0, 2] (.one 1 (.one 3 .done)) [] [4, 5] [6, 7] [] [] (by kernel_rfl) (by kernel_rfl) (by intro c a d v w h; cases d <;> exact h) (by intro c a d v w h; cases d <;> exact h) rfl (fun r i h => by simp at h) ?_
        simp only [pick, List.filterMap_cons, List.filterMap_nil, List.getElem?_toArray, List.getElem?_cons_succ, List.getElem?_cons_zero]
        intro u1 hu1
        replace p0 := (hu1.block _ (size_of_block p0)).trans p0
        replace q0 := (hu1.block _ (size_of_block q0)).trans q0
        replace q1 := (hu1.block _ (size_of_block q1)).trans q1
        replace hk := hk.later hu1
        replace qb := below_then qb hu1
        have cq00 := Joins.cell_of_block q0 0
        have cq01 := Joins.cell_of_block q0 1
        have cq02 := Joins.cell_of_block q0 2
        have cq03 := Joins.cell_of_block q0 3
        have cq04 := Joins.cell_of_block q0 4
        have zq0 := size_of_block q0
        have cp00 := Joins.cell_of_block p0 0
        have cp01 := Joins.cell_of_block p0 1
        have zp0 := size_of_block p0
        have hcg : ∀ (g : Gr u1) b o, b < u1.heap.size → g.val.cell? ⟨b, o, none⟩ = u1.cell? ⟨b, o, none⟩ := fun g b o h => (bcell g.b).1 b o h
        iterate 2 (refine wpRel_step (fun K hK => ?_); go_simp; refine hK _ ?_; clear hK K)
        refine wpRel_nil fun V1_0 hb1 => ?_
        clear hcg cq00 cq01 cq02 cq03 cq04 zq0 cp00 cp01 zp0
        replace p0 := (hb1.block _ (size_of_block p0)).trans p0
        replace q0 := (hb1.block _ (size_of_block q0)).trans q0
        replace q1 := (hb1.block _ (size_of_block q1)).trans q1
        replace hk := hk.later hb1
        replace qb := below_then qb hb1
        clear hb1 hu1
        refine wpTr_step rfl rfl fun K hK => ?_
        go_simp
        refine (netOf_c k _ V1_0 hk HR.out).mono ?_
        rintro e X ⟨u, rfl, hT, hx⟩
        refine hK _ _ hx fun V1_1 hu => ?_
        clear hK K
        have hxu := below_then hx hu
        try replace hT := hT.later hu
        replace p0 := (hxu.block _ (size_of_block p0)).trans p0
        replace q0 := (hxu.block _ (size_of_block q0)).trans q0
        replace q1 := (hxu.block _ (size_of_block q1)).trans q1
        replace hk := hk.later hxu
        replace qb := below_then qb hxu
        clear hx hu hxu
        refine wpTr_step rfl rfl fun K hK => ?_
        go_simp
        refine (HEC.out u V1_1 hT).mono ?_
        rintro e X ⟨rfl, hx⟩
        refine hK _ _ hx fun V1_2 hu => ?_
        clear hK K
        have hxu := below_then hx hu
        try replace hT := hT.later hu
        replace p0 := (hxu.block _ (size_of_block p0)).trans p0
        replace q0 := (hxu.block _ (size_of_block q0)).trans q0
        replace q1 := (hxu.block _ (size_of_block q1)).trans q1
        replace hk := hk.later hxu
        replace qb := below_then qb hxu
        clear hx hu hxu
        show wpPure _ _ _ _
        refine wpPure_step (.agg #[.int .i64 (betw k ra rb).1.1, .int .i64 (betw k ra rb).1.2]) rfl (fun u => rfl) ?_
        refine wpPure_step (.int .i64 (betw k ra rb).2) rfl (fun u => rfl) ?_
        intro ks hks _ _
        obtain rfl : ks = [] := List.length_eq_zero_iff.1 hks
        clear hks
        show wpList _ _ _ _ _ _
        simp only [deco]
        have e0 := Joins.cell_of_block q1 0
        have e1 := Joins.cell_of_block q1 1
        have f0 := Joins.unfrozen_of_block q1 0
        have f1 := Joins.unfrozen_of_block q1 1
        have zbx := size_of_block q1
        have HPP := Lib.hid (put2 (.int .i64 ((betw k ra rb).1.1)) (.int .i64 ((betw k ra rb).1.2)) q1)
        go_wp2_with fail
        refine bodyPost_ret (v := .tuple #[.agg #[.int .i64 ((betw k ra rb).1.1), .int .i64 ((betw k ra rb).1.2)], .int .i64 ((betw k ra rb).2)]) ?_ rfl ⟨by rw [HEE.out], below_set (below_set qb (by omega)) (by omega)⟩
        simp [results, Tryz.results37, go_sem, HPP.out.1, HPP.out.2]
      · have dz : (re != 0) = true := by simpa using hz
        have HEE := Lib.hid (show runE k f t = ((0, 0), re) by rw [HE.out, HM.out, if_pos (by simpa using hz)])
        clear hz
        have e0 := Joins.cell_of_block q1 0
        have e1 := Joins.cell_of_block q1 1
        have f0 := Joins.unfrozen_of_block q1 0
        have f1 := Joins.unfrozen_of_block q1 1
        have zbx := size_of_block q1
        have HPP := Lib.hid (put2 (.int .i64 (0)) (.int .i64 (0)) q1)
        go_wp2_with (refine wpList_store_rowTo rfl 160 _ _ rfl rfl W4.heap.size #[.int .i64 ra, .int .i64 rb] rfl rfl 160 _ hz0 (by kernel_rfl) rfl (by kernel_rfl) ?_; rw [← HW5.out])
        refine bodyPost_ret (v := .tuple #[.agg #[.int .i64 (0), .int .i64 (0)], .int .i64 (re)]) ?_ rfl ⟨by rw [HEE.out], below_set (below_set qb (by omega)) (by omega)⟩
        simp [results, Tryz.results37, go_sem, HPP.out.1, HPP.out.2]
  · have d0 : (checkI k != 0) = true := by simpa using h0
    have HE := Lib.hid (show runE k f t = ((0, 0), checkI k) from if_pos h0)
    clear h0
    have e0 := Joins.cell_of_block q1 0
    have e1 := Joins.cell_of_block q1 1
    have f0 := Joins.unfrozen_of_block q1 0
    have f1 := Joins.unfrozen_of_block q1 1
    have zbx := size_of_block q1
    have HPP := Lib.hid (put2 (.int .i64 (0)) (.int .i64 (0)) q1)
    go_wp2_with fail
    refine bodyPost_ret (v := .tuple #[.agg #[.int .i64 (0), .int .i64 (0)], .int .i64 (checkI k)]) ?_ rfl ⟨by rw [HE.out], below_set (below_set qb (by omega)) (by omega)⟩
    simp [results, Tryz.results37, go_sem, HPP.out.1, HPP.out.2]
end Go.Proofs.YtnedcclmfokdnaaGreat
namespace Go.Proofs.YtnedcclmfokdnaaGreat
open Go Go.RowKit Go.Shelf
attribute [local go_sem] Oper.semAt_some Rel RelAt RelUpon
set_option maxRecDepth 100000 in
set_option maxHeartbeats 4000000 in
theorem Weight_c (k : Kl) (v : Value) (id : Int) (w : World) (hv : Kiln w v k) :
    Calls Tryz.prog 35 #[v, .int .i64 id] w fun e w' => e = .returned (.tuple #[.agg #[.int .i64 (weightE k id).1.1, .int .i64 (weightE k id).1.2], .int .i64 (weightE k id).2]) ∧ Below w.heap.size w w' := by
  obtain ⟨A1, c1, A2, c2, A3, c3, rfl⟩ := kilnForm hv
  obtain ⟨q0, q1, -, qb⟩ := two_new' w (.cells #[.int .i64 k.room, .int .i64 k.per, .slice A1 k.ls.length c1, .slice A2 k.ds.length c2, .slice A3 k.ws.length c3] 26) (.cells #[.int .i64 0, .int .i64 0] 63)
  have HKB := Lib.hid hv.toB
  have hk := hv.later qb
  clear hv
  have HE : Hid (weightE k id = runE k id id) := rfl
  have hr := fun W h => Run_c k (.agg #[.int .i64 k.room, .int .i64 k.per, .slice A1 k.ls.length c1, .slice A2 k.ds.length c2, .slice A3 k.ws.length c3]) id id W h
  rw [← HE.out] at hr
  generalize weightE k id = R at hr ⊢
  obtain ⟨⟨lo, hi⟩, er⟩ := R
  dsimp only at hr ⊢
  have HRR := Lib.hid hr
  clear hr HE
  have y0 := Joins.cell_of_block q0 0
  have y1 := Joins.cell_of_block q0 1
  have y2 := Joins.cell_of_block q0 2
  have y3 := Joins.cell_of_block q0 3
  have y4 := Joins.cell_of_block q0 4
  go_enter Tryz.func35, Tryz.ntmps35
  go_wp2_with fail
  generalize (w.alloc _).alloc _ = W1 at q0 q1 qb hk ⊢
  refine (HRR.out W1 hk).mono ?_
  rintro e W2 ⟨rfl, hF⟩
  replace q1 := (hF.block _ (size_of_block q1)).trans q1
  replace qb := below_then qb hF
  clear hF q0 y0 y1 y2 y3 y4 hk
  have e0 := Joins.cell_of_block q1 0
  have e1 := Joins.cell_of_block q1 1
  have f0 := Joins.unfrozen_of_block q1 0
  have f1 := Joins.unfrozen_of_block q1 1
  have zbx := size_of_block q1
  have HPP := Lib.hid (put2 (.int .i64 (lo)) (.int .i64 (hi)) q1)
  go_wp2_with fail
  refine bodyPost_ret (v := .tuple #[.agg #[.int .i64 (lo), .int .i64 (hi)], .int .i64 (er)]) ?_ rfl ⟨rfl, below_set (below_set qb (by omega)) (by omega)⟩
  simp [results, Tryz.results35, go_sem, HPP.out.1, HPP.out.2]
set_option maxRecDepth 100000 in
set_option maxHeartbeats 4000000 in
theorem Held_c (k : Kl) (v : Value) (h : Int) (w : World) (hv : Kiln w v k) :
    Calls Tryz.prog 39 #[v, .int .i64 h] w fun e w' => e = .returned (.tuple #[.agg #[.int .i64 (heldE k h).1.1, .int .i64 (heldE k h).1.2], .int .i64 (heldE k h).2]) ∧ Below w.heap.size w w' := by
  obtain ⟨A1, c1, A2, c2, A3, c3, rfl⟩ := kilnForm hv
  obtain ⟨q0, q1, -, qb⟩ := two_new' w (.cells #[.int .i64 k.room, .int .i64 k.per, .slice A1 k.ls.length c1, .slice A2 k.ds.length c2, .slice A3 k.ws.length c3] 26) (.cells #[.int .i64 0, .int .i64 0] 63)
  have HKB := Lib.hid hv.toB
  have hk := hv.later qb
  clear hv
  go_enter Tryz.func39, Tryz.ntmps39
  have y0 := Joins.cell_of_block q0 0
  have y1 := Joins.cell_of_block q0 1
  have y2 := Joins.cell_of_block q0 2
  have y3 := Joins.cell_of_block q0 3
  have y4 := Joins.cell_of_block q0 4
  go_wp2_with fail
  generalize (w.alloc _).alloc _ = W1 at q0 q1 qb hk ⊢
  refine (checkHour_c k _ h W1 hk).mono ?_
  rintro e W2 ⟨rfl, hF⟩
  replace q0 := (hF.block _ (size_of_block q0)).trans q0
  replace q1 := (hF.block _ (size_of_block q1)).trans q1
  replace qb := below_then qb hF
  replace hk := hk.later hF
  clear hF y0 y1 y2 y3 y4
  by_cases h0 : hourI k h = 0
  · have d0 : (hourI k h != 0) = false := by rw [h0]; rfl
    have hc0 : checkI k = 0 := by
      unfold hourI at h0
      split at h0
      · rename_i hne; exact absurd h0 hne
      · rename_i hne; simpa using hne
    have HR := Lib.hid (right_of_check hc0)
    have HEE := Lib.hid (show heldE k h = betw k (drawnI k h) (chargedI k h) by unfold heldE; rw [if_neg (by simp [h0])])
    have hh := fun W hw => held_c k (.agg #[.int .i64 k.room, .int .i64 k.per, .slice A1 k.ls.length c1, .slice A2 k.ds.length c2, .slice A3 k.ws.length c3]) h W hw HR.out.ls
    rw [HR.out.held] at hh
    have hec := fun u W hw => endsK_c k u (drawnI k h) (chargedI k h) W HR.out (drawn_rng k h) (charged_rng k h) hw
    dsimp only at hh
    generalize drawnI k h = pa at hh hec HEE
    generalize chargedI k h = pb at hh hec HEE
    have HH := Lib.hid hh
    have HEC := Lib.hid hec
    clear hh hec h0 hc0
    go_wp2_with fail
    refine wp_region_looseM [3] [0, 2] (.one 1 (.one 4 (.one 5 .done))) [] [6, 7] [8, 9] [] [] (by kernel_rfl) (by kernel_rfl) (by intro c a d v w h; cases d <;> exact h) (by intro c a d v w h; cases d <;> exact h) rfl (fun r i h => by simp at h) ?_
    simp only [pick, List.filterMap_cons, List.filterMap_nil, List.getElem?_toArray, List.getElem?_cons_succ, List.getElem?_cons_zero]
    refine wpPure_step (.int .i64 h) rfl (fun u => by first | rfl | kernel_rfl | simp [execOp, go_sem]) ?_
    intro u1 hu1
    replace q0 := (hu1.block _ (size_of_block q0)).trans q0
    replace q1 := (hu1.block _ (size_of_block q1)).trans q1
    replace hk := hk.later hu1
    replace qb := below_then qb hu1
    have cq00 := Joins.cell_of_block q0 0
    have cq01 := Joins.cell_of_block q0 1
    have cq02 := Joins.cell_of_block q0 2
    have cq03 := Joins.cell_of_block q0 3
    have cq04 := Joins.cell_of_block q0 4
    have zq0 := size_of_block q0
    have hcg : ∀ (g : Gr u1) b o, b < u1.heap.size → g.val.cell? ⟨b, o, none⟩ = u1.cell? ⟨b, o, none⟩ := fun g b o h => (bcell g.b).1 b o h
    iterate 2 (refine wpRel_step (fun K hK => ?_); go_simp; refine hK _ ?_; clear hK K)
    refine wpRel_nil fun V1_0 hb1 => ?_
    clear hcg cq00 cq01 cq02 cq03 cq04 zq0
    replace q0 := (hb1.block _ (size_of_block q0)).trans q0
    replace q1 := (hb1.block _ (size_of_block q1)).trans q1
    replace hk := hk.later hb1
    replace qb := below_then qb hb1
    clear hb1 hu1
    refine wpTr_step rfl rfl fun K hK => ?_
    go_simp
    refine (netOf_c k _ V1_0 hk HR.out).mono ?_
    rintro e X ⟨u, rfl, hT, hx⟩
    refine hK _ _ hx fun V1_1 hu => ?_
    clear hK K
    have hxu := below_then hx hu
    replace hT := hT.later hu
    replace q0 := (hxu.block _ (size_of_block q0)).trans q0
    replace q1 := (hxu.block _ (size_of_block q1)).trans q1
    replace hk := hk.later hxu
    replace qb := below_then qb hxu
    clear hx hu hxu
    refine wpTr_step rfl rfl fun K hK => ?_
    go_simp
    refine (HH.out V1_1 hk).mono ?_
    rintro e X ⟨rfl, hx⟩
    refine hK _ _ hx fun V1_2 hu => ?_
    clear hK K
    have hxu := below_then hx hu
    replace hT := hT.later hxu
    replace q0 := (hxu.block _ (size_of_block q0)).trans q0
    replace q1 := (hxu.block _ (size_of_block q1)).trans q1
    replace hk := hk.later hxu
    replace qb := below_then qb hxu
    clear hx hu hxu
    refine wpTr_step rfl rfl fun K hK => ?_
    go_simp
    refine (HEC.out u V1_2 hT).mono ?_
    rintro e X ⟨rfl, hx⟩
    refine hK _ _ hx fun V1_3 hu => ?_
    clear hK K
    have hxu := below_then hx hu
    replace hT := hT.later hxu
    replace q0 := (hxu.block _ (size_of_block q0)).trans q0
    replace q1 := (hxu.block _ (size_of_block q1)).trans q1
    replace hk := hk.later hxu
    replace qb := below_then qb hxu
    clear hx hu hxu
    show wpPure _ _ _ _
    refine wpPure_step (.agg #[.int .i64 (betw k pa pb).1.1, .int .i64 (betw k pa pb).1.2]) rfl (fun u => rfl) ?_
    refine wpPure_step (.int .i64 (betw k pa pb).2) rfl (fun u => rfl) ?_
    intro ks hks _ _
    obtain rfl : ks = [] := List.length_eq_zero_iff.1 hks
    clear hks
    show wpList _ _ _ _ _ _
    simp only [deco]
    clear hT
    have e0 := Joins.cell_of_block q1 0
    have e1 := Joins.cell_of_block q1 1
    have f0 := Joins.unfrozen_of_block q1 0
    have f1 := Joins.unfrozen_of_block q1 1
    have zbx := size_of_block q1
    have HPP := Lib.hid (put2 (.int .i64 ((betw k pa pb).1.1)) (.int .i64 ((betw k pa pb).1.2)) q1)
    go_wp2_with fail
    refine bodyPost_ret (v := .tuple #[.agg #[.int .i64 ((betw k pa pb).1.1), .int .i64 ((betw k pa pb).1.2)], .int .i64 ((betw k pa pb).2)]) ?_ rfl ⟨by rw [HEE.out], below_set (below_set qb (by omega)) (by omega)⟩
    simp [results, Tryz.results39, go_sem, HPP.out.1, HPP.out.2]
  · have d0 : (hourI k h != 0) = true := by simpa using h0
    have HEE := Lib.hid (show heldE k h = ((0, 0), hourI k h) from if_pos h0)
    clear h0
    have e0 := Joins.cell_of_block q1 0
    have e1 := Joins.cell_of_block q1 1
    have f0 := Joins.unfrozen_of_block q1 0
    have f1 := Joins.unfrozen_of_block q1 1
    have zbx := size_of_block q1
    have HPP := Lib.hid (put2 (.int .i64 (0)) (.int .i64 (0)) q1)
    go_wp2_with fail
    refine bodyPost_ret (v := .tuple #[.agg #[.int .i64 (0), .int .i64 (0)], .int .i64 (hourI k h)]) ?_ rfl ⟨by rw [HEE.out], below_set (below_set qb (by omega)) (by omega)⟩
    simp [results, Tryz.results39, go_sem, HPP.out.1, HPP.out.2]
end Go.Proofs.YtnedcclmfokdnaaGreat
namespace Go.Proofs.YtnedcclmfokdnaaGreat
open Go Go.RowKit Go.Shelf
attribute [local go_sem] Oper.semAt_some Rel RelAt RelUpon
set_option maxRecDepth 100000 in
set_option maxHeartbeats 4000000 in
theorem Below_c (k : Kl) (v : Value) (id h : Int) (w : World) (hv : Kiln w v k) :
    Calls Tryz.prog 41 #[v, .int .i64 id, .int .i64 h] w fun e w' => e = .returned (.tuple #[.agg #[.int .i64 (belowE k id h).1.1, .int .i64 (belowE k id h).1.2], .int .i64 (belowE k id h).2]) ∧ Below w.heap.size w w' := by
  obtain ⟨A1, c1, A2, c2, A3, c3, rfl⟩ := kilnForm hv
  obtain ⟨q0, q1, -, qb⟩ := two_new' w (.cells #[.int .i64 k.room, .int .i64 k.per, .slice A1 k.ls.length c1, .slice A2 k.ds.length c2, .slice A3 k.ws.length c3] 26) (.cells #[.int .i64 0, .int .i64 0] 63)
  have HKB := Lib.hid hv.toB
  have hk := hv.later qb
  clear hv
  go_enter Tryz.func41, Tryz.ntmps41
  have y0 := Joins.cell_of_block q0 0
  have y1 := Joins.cell_of_block q0 1
  have y2 := Joins.cell_of_block q0 2
  have y3 := Joins.cell_of_block q0 3
  have y4 := Joins.cell_of_block q0 4
  go_wp2_with fail
  generalize (w.alloc _).alloc _ = W1 at q0 q1 qb hk ⊢
  refine (checkHour_c k _ h W1 hk).mono ?_
  rintro e W2 ⟨rfl, hF⟩
  replace q0 := (hF.block _ (size_of_block q0)).trans q0
  replace q1 := (hF.block _ (size_of_block q1)).trans q1
  replace qb := below_then qb hF
  replace hk := hk.later hF
  clear hF y0 y1 y2 y3 y4
  by_cases h0 : hourI k h = 0
  · have d0 : (hourI k h != 0) = false := by rw [h0]; rfl
    have hc0 : checkI k = 0 := by
      unfold hourI at h0
      split at h0
      · rename_i hne; exact absurd h0 hne
      · rename_i hne; simpa using hne
    have HR := Lib.hid (right_of_check hc0)
    have HE := Lib.hid (show belowE k id h = if place k.ls id < 0 then ((0, 0), 5) else if chargedI k h < place k.ls id + 1 then ((0, 0), 1) else betw k (drawnI k h) (place k.ls id) by unfold belowE; rw [if_neg (by simp [h0])])
    have n1 := HR.out.ls
    have HNL := Lib.hid HR.out.noL
    have hln := fun W (hk : Kiln W (.agg #[.int .i64 k.room, .int .i64 k.per, .slice A1 k.ls.length c1, .slice A2 k.ds.length c2, .slice A3 k.ws.length c3]) k) => (show Recs W W.heap.size (.slice A1 k.ls.length c1) k.ls by
      obtain ⟨al, ad, aw, e9, hl, _, _⟩ := hk
      obtain ⟨rfl, rfl, rfl⟩ : .slice A1 k.ls.length c1 = al ∧ .slice A2 k.ds.length c2 = ad ∧ .slice A3 k.ws.length c3 = aw := by simpa using e9
      exact hl)
    have HLN := Lib.hid hln
    have hdn := fun W (hk : Kiln W (.agg #[.int .i64 k.room, .int .i64 k.per, .slice A1 k.ls.length c1, .slice A2 k.ds.length c2, .slice A3 k.ws.length c3]) k) => (show Recs W W.heap.size (.slice A2 k.ds.length c2) k.ds by
      obtain ⟨al, ad, aw, e9, _, hd, _⟩ := hk
      obtain ⟨rfl, rfl, rfl⟩ : .slice A1 k.ls.length c1 = al ∧ .slice A2 k.ds.length c2 = ad ∧ .slice A3 k.ws.length c3 = aw := by simpa using e9
      exact hd)
    have HDN := Lib.hid hdn
    have HBL := Lib.hid (HR.out.byL h)
    have HBD := Lib.hid (HR.out.byD h)
    clear h0 hc0 hln hdn
    have y0 := Joins.cell_of_block q0 0
    have y1 := Joins.cell_of_block q0 1
    have y2 := Joins.cell_of_block q0 2
    have y3 := Joins.cell_of_block q0 3
    have y4 := Joins.cell_of_block q0 4
    go_wp2_with fail
    refine (loadsV _ _ _ _ _ _ _ W2).mono ?_
    rintro e W3 ⟨rfl, hF⟩
    replace q0 := (hF.block _ (size_of_block q0)).trans q0
    replace q1 := (hF.block _ (size_of_block q1)).trans q1
    replace qb := below_then qb hF
    replace hk := hk.later hF
    clear hF y0 y1 y2 y3 y4
    have hpc := Lib.hid (partsL_c k.ls (.slice A1 k.ls.length c1) 0 W3 (HLN.out W3 hk) (by omega) HNL.out)
    go_wp2_with fail
    refine hpc.out.mono ?_
    rintro e W4 ⟨r, rfl, hm, hF⟩
    replace q0 := (hF.block _ (size_of_block q0)).trans q0
    replace q1 := (hF.block _ (size_of_block q1)).trans q1
    replace qb := below_then qb hF
    replace hk := hk.later hF
    have HM := Lib.hid hm
    have HLK := Lib.hid (lookup_place k.ls 0 id)
    clear hF hpc hm
    have BQ := size_of_block q1
    rcases place_cases k.ls id with ⟨p1, _⟩ | ⟨i, x, p1, _, _, hi, _⟩
    · rw [p1, if_pos (by omega)] at HLK
      have HEE := Lib.hid (show belowE k id h = ((0, 0), 5) by rw [HE.out, p1, if_pos (by omega)])
      clear p1
      have hz0 := heap_alloc_new W4 (.cells #[.int .i64 0, .int .i64 0] 160)
      obtain ⟨W5, hW5⟩ : ∃ W5, W5 = (W4.alloc (.cells #[.int .i64 0, .int .i64 0] 160)).setRow W4.heap.size #[.int .i64 0, .int .i64 0] := ⟨_, rfl⟩
      have pb : Below W4.heap.size W4 W5 := by rw [hW5]; exact below_setRow (below_alloc _ _) (Nat.le_refl _) _
      have HW5 := Lib.hid hW5
      replace q0 := (pb.block _ (size_of_block q0)).trans q0
      replace q1 := (pb.block _ (size_of_block q1)).trans q1
      replace qb := below_then qb pb
      clear pb hW5
      have e0 := Joins.cell_of_block q1 0
      have e1 := Joins.cell_of_block q1 1
      have f0 := Joins.unfrozen_of_block q1 0
      have f1 := Joins.unfrozen_of_block q1 1
      have zbx := size_of_block q1
      have HPP := Lib.hid (put2 (.int .i64 (0)) (.int .i64 (0)) q1)
      go_wp2_with (first | (at_lookup; refine wpList_lookup_i rfl (.tmp 21) (.tmp 22) 168 true rfl Tryz.underlying168 Tryz.underlying3 (.agg #[.int .i64 0, .int .i64 0]) Tryz.zeroPart rfl id rfl HM.out (.tuple #[.agg #[.int .i64 0, .int .i64 0], .bool false]) (by rw [HLK.out]; rfl) ?_) | (refine wpList_store_rowTo rfl 160 _ _ rfl rfl W4.heap.size #[.int .i64 0, .int .i64 0] rfl rfl 160 _ hz0 (by kernel_rfl) rfl (by kernel_rfl) ?_; rw [← HW5.out]))
      refine bodyPost_ret (v := .tuple #[.agg #[.int .i64 (0), .int .i64 (0)], .int .i64 (5)]) ?_ rfl ⟨by rw [HEE.out], below_set (below_set qb (by omega)) (by omega)⟩
      simp [results, Tryz.results41, go_sem, HPP.out.1, HPP.out.2]
    · rw [p1, if_neg (by omega)] at HLK
      have hpv : partV 0 i = .agg #[.int .i64 i, .int .i64 ((i : Int) + 1)] := by unfold partV; rw [markB_zero, markB_zero]
      rw [hpv] at HLK
      have hz0 := heap_alloc_new W4 (.cells #[.int .i64 0, .int .i64 0] 160)
      obtain ⟨W5, hW5⟩ : ∃ W5, W5 = (W4.alloc (.cells #[.int .i64 0, .int .i64 0] 160)).setRow W4.heap.size #[.int .i64 i, .int .i64 ((i : Int) + 1)] := ⟨_, rfl⟩
      have pb : Below W4.heap.size W4 W5 := by rw [hW5]; exact below_setRow (below_alloc _ _) (Nat.le_refl _) _
      have p0 : W5.heap[W4.heap.size]? = some (.cells #[.int .i64 i, .int .i64 ((i : Int) + 1)] 160) := by rw [hW5]; exact setRow_heap _ _ _ _ _ _ hz0
      have HW5 := Lib.hid hW5
      replace q0 := (pb.block _ (size_of_block q0)).trans q0
      replace q1 := (pb.block _ (size_of_block q1)).trans q1
      replace qb := below_then qb pb
      replace hk := hk.later pb
      clear pb hW5
      go_wp2_with (first | (at_lookup; refine wpList_lookup_i rfl (.tmp 21) (.tmp 22) 168 true rfl Tryz.underlying168 Tryz.underlying3 (.agg #[.int .i64 0, .int .i64 0]) Tryz.zeroPart rfl id rfl HM.out (.tuple #[.agg #[.int .i64 i, .int .i64 ((i : Int) + 1)], .bool true]) (by rw [HLK.out]; rfl) ?_) | (refine wpList_store_rowTo rfl 160 _ _ rfl rfl W4.heap.size #[.int .i64 i, .int .i64 ((i : Int) + 1)] rfl rfl 160 _ hz0 (by kernel_rfl) rfl (by kernel_rfl) ?_; rw [← HW5.out]))
      clear hz0 HW5 HM HLK
      have y0 := Joins.cell_of_block q0 0
      have y1 := Joins.cell_of_block q0 1
      have y2 := Joins.cell_of_block q0 2
      have y3 := Joins.cell_of_block q0 3
      have y4 := Joins.cell_of_block q0 4
      have x1 := Joins.cell_of_block p0 1
      have zp := size_of_block p0
      have zq := size_of_block q0
      have hl5 := HLN.out W5 hk
      refine wp_region_grown (by kernel_rfl) (by kernel_rfl) fun hcg => ?_
      repeat (go_big_quiet_step (first | (go_at_call 77; exact Calls.grown (loadsV _ _ _ _ _ _ _ _)) | (go_at_call 111; exact Calls.grown (byL_c k.ls _ _ _ _ (hl5.later (Gr.b _)) (by omega)))))
      refine wpQuiet_nil ?_
      intro _ hw'
      obtain ⟨g, hw''⟩ := hw'
      subst hw''
      replace q0 := (g.b.block _ (size_of_block q0)).trans q0
      replace q1 := (g.b.block _ (size_of_block q1)).trans q1
      replace p0 := (g.b.block _ (size_of_block p0)).trans p0
      replace qb := below_then qb g.b
      replace hk := hk.later g.b
      generalize g.val = W6 at q0 q1 p0 qb hk ⊢
      clear hcg y0 y1 y2 y3 y4 x1 zp zq hl5
      rw [HBL.out]
      by_cases hlt : chargedI k h < (i : Int) + 1
      · have HEE := Lib.hid (show belowE k id h = ((0, 0), 1) by rw [HE.out, p1, if_neg (by omega), if_pos hlt])
        generalize chargedI k h = ch at hlt ⊢
        clear p1
        have e0 := Joins.cell_of_block q1 0
        have e1 := Joins.cell_of_block q1 1
        have f0 := Joins.unfrozen_of_block q1 0
        have f1 := Joins.unfrozen_of_block q1 1
        have zbx := size_of_block q1
        have HPP := Lib.hid (put2 (.int .i64 (0)) (.int .i64 (0)) q1)
        go_wp2_with fail
        all_goals (try (exfalso; omega))
        refine bodyPost_ret (v := .tuple #[.agg #[.int .i64 (0), .int .i64 (0)], .int .i64 (1)]) ?_ rfl ⟨by rw [HEE.out], below_set (below_set qb (by omega)) (by omega)⟩
        simp [results, Tryz.results41, go_sem, HPP.out.1, HPP.out.2]
      · have HEE := Lib.hid (show belowE k id h = betw k (drawnI k h) i by rw [HE.out, p1, if_neg (by omega), if_neg hlt])
        have hrg : 0 ≤ (i : Int) ∧ (i : Int) < marksN k := by unfold marksN; omega
        have hec := fun u W hw => endsK_c k u (drawnI k h) i W HR.out (drawn_rng k h) hrg hw
        rw [← HBD.out] at hec HEE
        have HEC := Lib.hid hec
        generalize chargedI k h = ch at hlt ⊢
        clear p1 hrg hec
        go_wp2_with fail
        all_goals (try (exfalso; omega))
        have hd6 := HDN.out W6 hk
        refine wp_region_looseM [4] [0, 2, 6, 7] (.one 1 (.one 3 (.one 5 (.one 8 (.one 9 .done))))) [] [10, 11] [12, 13] [] [] (by kernel_rfl) (by kernel_rfl) (by intro c a d v w h; cases d <;> exact h) (by intro c a d v w h; cases d <;> exact h) rfl (fun r i h => by simp at h) ?_
        simp only [pick, List.filterMap_cons, List.filterMap_nil, List.getElem?_toArray, List.getElem?_cons_succ, List.getElem?_cons_zero]
        refine wpPure_step (.int .i64 h) rfl (fun u => by first | rfl | kernel_rfl | simp [execOp, go_sem]) ?_
        intro u1 hu1
        replace q1 := (hu1.block _ (size_of_block q1)).trans q1
        replace p0 := (hu1.block _ (size_of_block p0)).trans p0
        replace q0 := (hu1.block _ (size_of_block q0)).trans q0
        replace hk := hk.later hu1
        replace qb := below_then qb hu1
        have cq00 := Joins.cell_of_block q0 0
        have cq01 := Joins.cell_of_block q0 1
        have cq02 := Joins.cell_of_block q0 2
        have cq03 := Joins.cell_of_block q0 3
        have cq04 := Joins.cell_of_block q0 4
        have zq0 := size_of_block q0
        have cp00 := Joins.cell_of_block p0 0
        have cp01 := Joins.cell_of_block p0 1
        have zp0 := size_of_block p0
        have hcg : ∀ (g : Gr u1) b o, b < u1.heap.size → g.val.cell? ⟨b, o, none⟩ = u1.cell? ⟨b, o, none⟩ := fun g b o h => (bcell g.b).1 b o h
        iterate 4 (refine wpRel_step (fun K hK => ?_); go_simp; refine hK _ ?_; clear hK K)
        refine wpRel_nil fun V1_0 hb1 => ?_
        clear hcg cq00 cq01 cq02 cq03 cq04 zq0 cp00 cp01 zp0
        replace p0 := (hb1.block _ (size_of_block p0)).trans p0
        replace q0 := (hb1.block _ (size_of_block q0)).trans q0
        replace q1 := (hb1.block _ (size_of_block q1)).trans q1
        replace hk := hk.later hb1
        replace qb := below_then qb hb1
        clear hb1 hu1
        refine wpTr_step rfl rfl fun K hK => ?_
        go_simp
        refine (netOf_c k _ V1_0 hk HR.out).mono ?_
        rintro e X ⟨u, rfl, hT, hx⟩
        refine hK _ _ hx fun V1_1 hu => ?_
        clear hK K
        have hxu := below_then hx hu
        replace hT := hT.later hu
        replace p0 := (hxu.block _ (size_of_block p0)).trans p0
        replace q0 := (hxu.block _ (size_of_block q0)).trans q0
        replace q1 := (hxu.block _ (size_of_block q1)).trans q1
        replace hk := hk.later hxu
        replace qb := below_then qb hxu
        clear hx hu hxu
        refine wpTr_step rfl rfl fun K hK => ?_
        go_simp
        refine (drawsV _ _ _ _ _ _ _ _ _ V1_1).mono ?_
        rintro e X ⟨rfl, hx⟩
        refine hK _ _ hx fun V1_2 hu => ?_
        clear hK K
        have hxu := below_then hx hu
        try replace hT := hT.later hxu
        replace p0 := (hxu.block _ (size_of_block p0)).trans p0
        replace q0 := (hxu.block _ (size_of_block q0)).trans q0
        replace q1 := (hxu.block _ (size_of_block q1)).trans q1
        replace hk := hk.later hxu
        replace qb := below_then qb hxu
        clear hx hu hxu
        refine wpTr_step rfl rfl fun K hK => ?_
        go_simp
        refine (byD_c k.ds _ _ h V1_2 (HDN.out V1_2 hk) (by omega)).mono ?_
        rintro e X ⟨rfl, hx⟩
        refine hK _ _ hx fun V1_3 hu => ?_
        clear hK K
        have hxu := below_then hx hu
        try replace hT := hT.later hxu
        replace p0 := (hxu.block _ (size_of_block p0)).trans p0
        replace q0 := (hxu.block _ (size_of_block q0)).trans q0
        replace q1 := (hxu.block _ (size_of_block q1)).trans q1
        replace hk := hk.later hxu
        replace qb := below_then qb hxu
        clear hx hu hxu
        refine wpTr_step rfl rfl fun K hK => ?_
        go_simp
        refine hK _ _ (Below.refl _ _) fun V1_4 hu => ?_
        clear hK K
        replace p0 := (hu.block _ (size_of_block p0)).trans p0
        replace q0 := (hu.block _ (size_of_block q0)).trans q0
        replace q1 := (hu.block _ (size_of_block q1)).trans q1
        replace hk := hk.later hu
        replace qb := below_then qb hu
        replace hT := hT.later hu
        clear hu
        refine wpTr_step rfl rfl fun K hK => ?_
        go_simp
        refine (HEC.out u V1_4 hT).mono ?_
        rintro e X ⟨rfl, hx⟩
        refine hK _ _ hx fun V1_5 hu => ?_
        clear hK K
        have hxu := below_then hx hu
        try replace hT := hT.later hxu
        replace p0 := (hxu.block _ (size_of_block p0)).trans p0
        replace q0 := (hxu.block _ (size_of_block q0)).trans q0
        replace q1 := (hxu.block _ (size_of_block q1)).trans q1
        replace hk := hk.later hxu
        replace qb := below_then qb hxu
        clear hx hu hxu
        show wpPure _ _ _ _
        refine wpPure_step (.agg #[.int .i64 (betw k (markB k.ls.length (cntLe k.ds h)) i).1.1, .int .i64 (betw k (markB k.ls.length (cntLe k.ds h)) i).1.2]) rfl (fun u => rfl) ?_
        refine wpPure_step (.int .i64 (betw k (markB k.ls.length (cntLe k.ds h)) i).2) rfl (fun u => rfl) ?_
        intro ks hks _ _
        obtain rfl : ks = [] := List.length_eq_zero_iff.1 hks
        clear hks
        show wpList _ _ _ _ _ _
        simp only [deco]
        clear hT
        have e0 := Joins.cell_of_block q1 0
        have e1 := Joins.cell_of_block q1 1
        have f0 := Joins.unfrozen_of_block q1 0
        have f1 := Joins.unfrozen_of_block q1 1
        have zbx := size_of_block q1
        have HPP := Lib.hid (put2 (.int .i64 ((betw k (markB k.ls.length (cntLe k.ds h)) i).1.1)) (.int .i64 ((betw k (markB k.ls.length (cntLe k.ds h)) i).1.2)) q1)
        go_wp2_with fail
        refine bodyPost_ret (v := .tuple #[.agg #[.int .i64 ((betw k (markB k.ls.length (cntLe k.ds h)) i).1.1), .int .i64 ((betw k (markB k.ls.length (cntLe k.ds h)) i).1.2)], .int .i64 ((betw k (markB k.ls.length (cntLe k.ds h)) i).2)]) ?_ rfl ⟨by rw [HEE.out], below_set (below_set qb (by omega)) (by omega)⟩
        simp [results, Tryz.results41, go_sem, HPP.out.1, HPP.out.2]
  · have d0 : (hourI k h != 0) = true := by simpa using h0
    have HEE := Lib.hid (show belowE k id h = ((0, 0), hourI k h) from if_pos h0)
    clear h0
    have e0 := Joins.cell_of_block q1 0
    have e1 := Joins.cell_of_block q1 1
    have f0 := Joins.unfrozen_of_block q1 0
    have f1 := Joins.unfrozen_of_block q1 1
    have zbx := size_of_block q1
    have HPP := Lib.hid (put2 (.int .i64 (0)) (.int .i64 (0)) q1)
    go_wp2_with fail
    refine bodyPost_ret (v := .tuple #[.agg #[.int .i64 (0), .int .i64 (0)], .int .i64 (hourI k h)]) ?_ rfl ⟨by rw [HEE.out], below_set (below_set qb (by omega)) (by omega)⟩
    simp [results, Tryz.results41, go_sem, HPP.out.1, HPP.out.2]
end Go.Proofs.YtnedcclmfokdnaaGreat
namespace Go.Proofs.YtnedcclmfokdnaaGreat
open Go Go.RowKit Go.Shelf
attribute [local go_sem] Oper.semAt_some Rel RelAt RelUpon
theorem betw_small {k : Kl} (hR : Right k) {a b : Int} (ha : 0 ≤ a ∧ a < marksN k) (hb : 0 ≤ b ∧ b < marksN k) :
    (-687865856 ≤ (betw k a b).1.1 ∧ (betw k a b).1.1 ≤ 687865856) ∧ -687865856 ≤ (betw k a b).1.2 ∧ (betw k a b).1.2 ≤ 687865856 := by
  unfold betw
  split
  · rename_i h
    have hc := canB_true.1 h
    have r1 := net_reaches k ha.1 ha.2 b hb.1 hb.2
    have r2 := net_reaches k hb.1 hb.2 a ha.1 ha.2
    have d1 := dst_rng (net_ok hR) hc r1 r2
    have d2 := dst_rng (net_ok hR) hc r2 r1
    simp only
    omega
  · simp only; omega
theorem below_small (k : Kl) (id h : Int) (e : (belowE k id h).2 = 0) :
    ((-687865856 ≤ (belowE k id h).1.1 ∧ (belowE k id h).1.1 ≤ 687865856) ∧ -687865856 ≤ (belowE k id h).1.2 ∧ (belowE k id h).1.2 ≤ 687865856) ∧ 1 ≤ k.per ∧ k.per ≤ 65536 := by
  unfold belowE at e ⊢
  split at e
  · rename_i h0; exact absurd e h0
  · rename_i h0
    rw [if_neg h0]
    have hc0 : checkI k = 0 := by
      unfold hourI at h0
      split at h0
      · rename_i hne; exact absurd hne h0
      · rename_i hne; simpa using hne
    have hR := right_of_check hc0
    have hp := hR.per
    simp only [inB, Bool.and_eq_true, decide_eq_true_eq] at hp
    refine ⟨?_, hp⟩
    split at e
    · simp at e
    · rename_i h1
      rw [if_neg h1]
      split at e
      · simp at e
      · rename_i h2
        rw [if_neg h2]
        have a := place_range k.ls id
        exact betw_small hR (drawn_rng k h) ⟨by omega, by unfold marksN; omega⟩
theorem div_parts (a : Int) {p : Int} (hp : 1 ≤ p) : a / p * p ≤ a ∧ a < a / p * p + p := by
  have h1 := Int.ediv_mul_le a (show p ≠ 0 by omega)
  have h2 := Int.lt_ediv_add_one_mul_self a (show 0 < p by omega)
  rw [Int.add_mul, Int.one_mul] at h2
  exact ⟨h1, h2⟩
theorem div_uniq {a p q : Int} (hp : 1 ≤ p) (h1 : q * p ≤ a) (h2 : a < q * p + p) : a / p = q := by
  refine Int.le_antisymm ?_ ((Int.le_ediv_iff_mul_le (by omega)).2 h1)
  have : a / p < q + 1 := Int.ediv_lt_of_lt_mul (by omega) (by rw [Int.add_mul, Int.one_mul]; exact h2)
  omega
theorem quo_up {p a : Int} (hp : 1 ≤ p) (ha : a < 0) : -((p - 1 - a).tdiv p) = a / p := by
  rw [Int.tdiv_eq_ediv_of_nonneg (by omega)]
  obtain ⟨h1, h2⟩ := div_parts a hp
  rw [div_uniq (a := p - 1 - a) (q := -(a / p)) hp (by rw [Int.neg_mul]; omega) (by rw [Int.neg_mul]; omega)]
  omega
theorem div_small {p a : Int} (hp : 1 ≤ p) (ha : -687865856 ≤ a ∧ a ≤ 687865856) : -687865856 ≤ a / p ∧ a / p ≤ 687865856 := by
  constructor
  · exact (Int.le_ediv_iff_mul_le (by omega)).2 (by omega)
  · have : a / p < 687865857 := Int.ediv_lt_of_lt_mul (by omega) (by omega)
    omega
set_option maxRecDepth 100000 in
set_option maxHeartbeats 4000000 in
theorem floor_c (a p : Int) (w : World) (ha : -687865856 ≤ a ∧ a ≤ 687865856) (hp : 1 ≤ p ∧ p ≤ 65536) :
    Calls Tryz.prog 113 #[.int .i64 a, .int .i64 p] w fun e w' => e = .returned (.int .i64 (floorI a p)) ∧ Below w.heap.size w w' := by
  have d0 : (p == 0) = false := beq_eq_false_iff_ne.2 (by omega)
  have hs := div_small hp.1 ha
  by_cases hn : a < 0
  · have hq := quo_up hp.1 hn
    obtain ⟨q, hqq⟩ : ∃ q, q = (p - 1 - a).tdiv p := ⟨_, rfl⟩
    rw [← hqq] at hq
    have hqs : -687865856 ≤ q ∧ q ≤ 687865856 := by omega
    have HF := Lib.hid (show floorI a p = -q from hq.symm)
    clear hq hs
    go_enter Tryz.func113, Tryz.ntmps113
    go_wp2_with fail
    all_goals (try (exfalso; omega))
    exact bodyPost_ret (v := .int .i64 (-(p - 1 - a).tdiv p)) (by simp [results, Tryz.results113, go_sem]) rfl ⟨by rw [HF.out, hqq], Below.refl _ _⟩
  · have hq : a.tdiv p = a / p := Int.tdiv_eq_ediv_of_nonneg (by omega)
    have HF := Lib.hid (show floorI a p = a.tdiv p from hq.symm)
    obtain ⟨q, hqq⟩ : ∃ q, q = a.tdiv p := ⟨_, rfl⟩
    go_enter Tryz.func113, Tryz.ntmps113
    go_wp2_with fail
    all_goals (try (exfalso; omega))
    exact bodyPost_ret (v := .int .i64 (a / p)) (by simp [results, Tryz.results113, go_sem]) rfl ⟨by rw [HF.out, hq], Below.refl _ _⟩
set_option maxRecDepth 100000 in
set_option maxHeartbeats 4000000 in
theorem Feet_c (k : Kl) (v : Value) (id h : Int) (w : World) (hv : Kiln w v k) :
    Calls Tryz.prog 43 #[v, .int .i64 id, .int .i64 h] w fun e w' => e = .returned (.tuple #[.agg #[.int .i64 (feetE k id h).1.1, .int .i64 (feetE k id h).1.2], .int .i64 (feetE k id h).2]) ∧ Below w.heap.size w w' := by
  obtain ⟨A1, c1, A2, c2, A3, c3, rfl⟩ := kilnForm hv
  obtain ⟨q0, q1, -, qb⟩ := two_new' w (.cells #[.int .i64 k.room, .int .i64 k.per, .slice A1 k.ls.length c1, .slice A2 k.ds.length c2, .slice A3 k.ws.length c3] 26) (.cells #[.int .i64 0, .int .i64 0] 63)
  have HKB := Lib.hid hv.toB
  have hk := hv.later qb
  clear hv
  have hbs := below_small k id h
  have hbc := fun W hw => Below_c k (.agg #[.int .i64 k.room, .int .i64 k.per, .slice A1 k.ls.length c1, .slice A2 k.ds.length c2, .slice A3 k.ws.length c3]) id h W hw
  have HEE0 := Lib.hid (show feetE k id h = if (belowE k id h).2 ≠ 0 then ((0, 0), (belowE k id h).2) else ((floorI (belowE k id h).1.1 k.per, floorI (belowE k id h).1.2 k.per), 0) from rfl)
  obtain ⟨⟨⟨lo, hi⟩, E⟩, hE⟩ : ∃ x, x = belowE k id h := ⟨_, rfl⟩
  rw [← hE] at hbs hbc HEE0
  simp only at hbs hbc HEE0
  have HBC := Lib.hid hbc
  clear hE hbc
  go_enter Tryz.func43, Tryz.ntmps43
  have y0 := Joins.cell_of_block q0 0
  have y1 := Joins.cell_of_block q0 1
  have y2 := Joins.cell_of_block q0 2
  have y3 := Joins.cell_of_block q0 3
  have y4 := Joins.cell_of_block q0 4
  go_wp2_with fail
  generalize (w.alloc _).alloc _ = W1 at q0 q1 qb hk ⊢
  refine (HBC.out W1 hk).mono ?_
  rintro e W4 ⟨rfl, hF⟩
  replace q0 := (hF.block _ (size_of_block q0)).trans q0
  replace q1 := (hF.block _ (size_of_block q1)).trans q1
  replace qb := below_then qb hF
  clear hF y0 y1 y2 y3 y4 hk HBC
  have BQ := size_of_block q1
  have hz0 := heap_alloc_new W4 (.cells #[.int .i64 0, .int .i64 0] 63)
  obtain ⟨W5, hW5⟩ : ∃ W5, W5 = (W4.alloc (.cells #[.int .i64 0, .int .i64 0] 63)).setRow W4.heap.size #[.int .i64 lo, .int .i64 hi] := ⟨_, rfl⟩
  have pb : Below W4.heap.size W4 W5 := by rw [hW5]; exact below_setRow (below_alloc _ _) (Nat.le_refl _) _
  have p0 : W5.heap[W4.heap.size]? = some (.cells #[.int .i64 lo, .int .i64 hi] 63) := by rw [hW5]; exact setRow_heap _ _ _ _ _ _ hz0
  have HW5 := Lib.hid hW5
  replace q0 := (pb.block _ (size_of_block q0)).trans q0
  replace q1 := (pb.block _ (size_of_block q1)).trans q1
  replace qb := below_then qb pb
  clear pb hW5
  by_cases hE0 : E = 0
  · subst hE0
    have d0 : ((0 : Int) != 0) = false := rfl
    obtain ⟨⟨hlo, hhi⟩, hpr⟩ := hbs rfl
    clear hbs
    rw [if_neg (by simp)] at HEE0
    obtain ⟨fa, hfa⟩ : ∃ x, x = floorI lo k.per := ⟨_, rfl⟩
    obtain ⟨fb, hfb⟩ : ∃ x, x = floorI hi k.per := ⟨_, rfl⟩
    have hfl : ∀ a W, (-687865856 ≤ a ∧ a ≤ 687865856) → Calls Tryz.prog 113 #[.int .i64 a, .int .i64 k.per] W fun e w' => e = .returned (.int .i64 (floorI a k.per)) ∧ Below W.heap.size W w' := fun a W ha => floor_c a k.per W ha hpr
    have HFL := Lib.hid hfl
    have hpp := hpr
    clear hfl hpr
    go_wp2_with (first | (refine wpList_store_rowTo rfl 63 _ _ rfl rfl W4.heap.size #[.int .i64 lo, .int .i64 hi] rfl rfl 63 _ hz0 (by kernel_rfl) rfl (by kernel_rfl) ?_; rw [← HW5.out]))
    clear hz0 HW5
    have x0 := Joins.cell_of_block p0 0
    have x1 := Joins.cell_of_block p0 1
    have zp := size_of_block p0
    have y0 := Joins.cell_of_block q0 0
    have y1 := Joins.cell_of_block q0 1
    have y2 := Joins.cell_of_block q0 2
    have y3 := Joins.cell_of_block q0 3
    have y4 := Joins.cell_of_block q0 4
    have zq := size_of_block q0
    have e0 := Joins.cell_of_block q1 0
    have e1 := Joins.cell_of_block q1 1
    have f0 := Joins.unfrozen_of_block q1 0
    have f1 := Joins.unfrozen_of_block q1 1
    have zbx := size_of_block q1
    refine wp_region_grown_tail 10 (by kernel_rfl) (by kernel_rfl) fun hcg => ?_
    simp only [List.take_succ_cons, List.take_zero, List.drop_succ_cons, List.drop_zero]
    repeat (go_big_quiet_step (first | (go_at_call 113; exact Calls.grown (HFL.out _ _ (by omega)))))
    refine wpQuiet_nil ?_
    intro _ hw'
    obtain ⟨g, hw''⟩ := hw'
    subst hw''
    clear x0 x1 zp y0 y1 y2 y3 y4 zq e0 e1 f0 f1 zbx p0 q0
    replace q1 := (g.b.block _ (size_of_block q1)).trans q1
    replace qb := below_then qb g.b
    generalize g.val = W6 at q1 qb ⊢
    have e0 := Joins.cell_of_block q1 0
    have e1 := Joins.cell_of_block q1 1
    have f0 := Joins.unfrozen_of_block q1 0
    have f1 := Joins.unfrozen_of_block q1 1
    have zbx := size_of_block q1
    have HPP := Lib.hid (put2 (.int .i64 (floorI lo k.per)) (.int .i64 (floorI hi k.per)) q1)
    go_wp2_with fail
    refine bodyPost_ret (v := .tuple #[.agg #[.int .i64 (floorI lo k.per), .int .i64 (floorI hi k.per)], .int .i64 (0)]) ?_ rfl ⟨by rw [HEE0.out], below_set (below_set qb (by omega)) (by omega)⟩
    simp [results, Tryz.results43, go_sem, HPP.out.1, HPP.out.2]
  · have d0 : (E != 0) = true := by simpa using hE0
    have HEE := Lib.hid (show feetE k id h = ((0, 0), E) by rw [HEE0.out, if_pos hE0])
    clear HEE0 hbs hE0
    have e0 := Joins.cell_of_block q1 0
    have e1 := Joins.cell_of_block q1 1
    have f0 := Joins.unfrozen_of_block q1 0
    have f1 := Joins.unfrozen_of_block q1 1
    have zbx := size_of_block q1
    have HPP := Lib.hid (put2 (.int .i64 (0)) (.int .i64 (0)) q1)
    go_wp2_with (first | (refine wpList_store_rowTo rfl 63 _ _ rfl rfl W4.heap.size #[.int .i64 lo, .int .i64 hi] rfl rfl 63 _ hz0 (by kernel_rfl) rfl (by kernel_rfl) ?_; rw [← HW5.out]))
    refine bodyPost_ret (v := .tuple #[.agg #[.int .i64 (0), .int .i64 (0)], .int .i64 (E)]) ?_ rfl ⟨by rw [HEE.out], below_set (below_set qb (by omega)) (by omega)⟩
    simp [results, Tryz.results43, go_sem, HPP.out.1, HPP.out.2]
end Go.Proofs.YtnedcclmfokdnaaGreat
namespace Go.Proofs.YtnedcclmfokdnaaGreat
open Go Go.RowKit Go.Shelf
attribute [local go_sem] Oper.semAt_some Rel RelAt RelUpon
def ovA (N : Int) (u : Value) (a b : Pt) : Array Value := #[.int .i64 N, u, .int .i64 a.ahead, .int .i64 a.own, .int .i64 a.ahead, .int .i64 b.own, .int .i64 b.ahead, .int .i64 a.own, .int .i64 b.ahead, .int .i64 b.own]
def pV (p : Pt) : Value := .agg #[.int .i64 p.ahead, .int .i64 p.own]
def ovV (N : Int) (u : Value) (a b : Pt) : Value := .agg (ovA N u a b)
set_option maxRecDepth 100000 in
set_option maxHeartbeats 4000000 in
theorem overlap_c (N : Int) (A : Option Addr) (n c : Nat) (a b : Pt) (w : World) :
    Calls Tryz.prog 157 #[.agg #[.int .i64 N, .slice A n c], pV a, pV b] w fun e w' => e = .returned (ovV N (.slice A n c) a b) ∧ Below w.heap.size w w' := by
  obtain ⟨p1, p2⟩ := a
  obtain ⟨p3, p4⟩ := b
  unfold pV ovV ovA
  dsimp only
  go_enter Tryz.func157, Tryz.ntmps157
  go_wp2_with fail
  refine bodyPost_ret (v := .agg #[.int .i64 N, .slice A n c, .int .i64 p1, .int .i64 p2, .int .i64 p1, .int .i64 p4, .int .i64 p3, .int .i64 p2, .int .i64 p3, .int .i64 p4]) ?_ rfl ⟨rfl, below_then (below_then (below_then (below_alloc _ _) (below_alloc _ _)) (below_alloc _ _)) (below_alloc _ _)⟩
  have hz : (((w.alloc (.cells #[.int .i64 N, .slice A n c] 145)).alloc (.cells #[.int .i64 p1, .int .i64 p2] 160)).alloc (.cells #[.int .i64 p3, .int .i64 p4] 160)).heap.size = w.heap.size + 1 + 1 + 1 := by simp
  generalize ((w.alloc _).alloc _).alloc _ = W1 at hz ⊢
  have hn := heap_alloc_new W1 (.cells #[.int .i64 N, .slice A n c, .int .i64 p1, .int .i64 p2, .int .i64 p1, .int .i64 p4, .int .i64 p3, .int .i64 p2, .int .i64 p3, .int .i64 p4] 173)
  rw [hz] at hn
  have HV := run_loadVar_row (P := Tryz.prog) _ (w.heap.size + 1 + 1 + 1) 173 173 _ (0, 0) _ hn Tryz.underlying173 rfl (by kernel_rfl)
  simp [results, Tryz.results157, asAddr, HV]
end Go.Proofs.YtnedcclmfokdnaaGreat
namespace Go.Proofs.YtnedcclmfokdnaaGreat
open Go Go.RowKit Go.Shelf
attribute [local go_sem] Oper.semAt_some Rel RelAt RelUpon
def LeastAt (l : List Tie) (N : Nat) (a b : Pt) (j : Nat) (ls : Int) (F : Nat → Int) : Prop :=
  (∀ t ∈ (sides a b).take j, ls ≤ -(dst l t.own t.ahead)) ∧ (j = 0 ∧ ls = 1099511627776 ∨ ∃ s ∈ sides a b, ∃ M B, F = halfN N M ∧ Settled l N s.own M B ∧ ls = -(dst l s.own s.ahead))
theorem least_in {l : List Tie} {a b s : Pt} (hs : s ∈ sides a b) (hm : ∀ t ∈ sides a b, -(dst l s.own s.ahead) ≤ -(dst l t.own t.ahead)) : max (-(dst l s.own s.ahead)) 0 = leastZ l a b := by
  have m1 := hm a (by simp [sides])
  have m2 := hm ⟨a.ahead, b.own⟩ (by simp [sides])
  have m3 := hm ⟨b.ahead, a.own⟩ (by simp [sides])
  have m4 := hm b (by simp [sides])
  unfold leastZ
  simp only [sides, List.mem_cons, List.not_mem_nil, or_false] at hs
  rcases hs with rfl | rfl | rfl | rfl <;> (try dsimp only at m1 m2 m3 m4 ⊢) <;> omega
theorem side_ok {l : List Tie} {n : Int} {a b s : Pt} (h : PtsOk l n a b) (hs : s ∈ sides a b) : (0 ≤ s.ahead ∧ s.ahead < n) ∧ (0 ≤ s.own ∧ s.own < n) ∧ Reaches l n s.own := by
  simp only [sides, List.mem_cons, List.not_mem_nil, or_false] at hs
  rcases hs with rfl | rfl | rfl | rfl
  · exact ⟨h.a1, h.a2, h.ra⟩
  · exact ⟨h.a1, h.b2, h.rb⟩
  · exact ⟨h.b1, h.a2, h.ra⟩
  · exact ⟨h.b1, h.b2, h.rb⟩
theorem least_next {l : List Tie} {N : Nat} {a b s : Pt} {j : Nat} {ls : Int} {F : Nat → Int} {M B : Int → Int} (h : LeastAt l N a b j ls F) (hs : (sides a b)[j]? = some s) (hM : Settled l N s.own M B) (hp : PtsOk l N a b) :
    LeastAt l N a b (j + 1) (if -(M s.ahead) < ls then -(M s.ahead) else ls) (if -(M s.ahead) < ls then halfN N M else F) := by
  have hin : s ∈ sides a b := List.mem_of_getElem? hs
  obtain ⟨ha, hb, _⟩ := side_ok hp hin
  have hd : dst l s.own s.ahead = M s.ahead := dst_settled hM ha.1 ha.2
  have hz := hM.size _ ha.1 ha.2
  have ht : (sides a b).take (j + 1) = (sides a b).take j ++ [s] := by rw [List.take_add_one, hs]; rfl
  unfold LeastAt
  rw [ht]
  by_cases e : -(M s.ahead) < ls
  · rw [if_pos e, if_pos e]
    refine ⟨fun t h' => ?_, .inr ⟨s, hin, M, B, rfl, hM, by rw [hd]⟩⟩
    rcases List.mem_append.1 h' with h' | h'
    · have := h.1 t h'; omega
    · rw [List.mem_singleton] at h'; subst h'; rw [hd]; exact Int.le_refl _
  · rw [if_neg e, if_neg e]
    refine ⟨fun t h' => ?_, ?_⟩
    · rcases List.mem_append.1 h' with h' | h'
      · exact h.1 t h'
      · rw [List.mem_singleton] at h'; subst h'; rw [hd]; omega
    · rcases h.2 with ⟨_, h2⟩ | h2
      · omega
      · exact .inr h2
theorem sidx0 (a b c d e f g h : Int) (w : World) : (Instr.index 171 (.agg #[.int .i64 a, .int .i64 b, .int .i64 c, .int .i64 d, .int .i64 e, .int .i64 f, .int .i64 g, .int .i64 h]) (.int .i64 0)).run Tryz.prog w = .ok (.agg #[.int .i64 a, .int .i64 b]) w := by kernel_rfl
theorem sidx1 (a b c d e f g h : Int) (w : World) : (Instr.index 171 (.agg #[.int .i64 a, .int .i64 b, .int .i64 c, .int .i64 d, .int .i64 e, .int .i64 f, .int .i64 g, .int .i64 h]) (.int .i64 1)).run Tryz.prog w = .ok (.agg #[.int .i64 c, .int .i64 d]) w := by kernel_rfl
theorem sidx2 (a b c d e f g h : Int) (w : World) : (Instr.index 171 (.agg #[.int .i64 a, .int .i64 b, .int .i64 c, .int .i64 d, .int .i64 e, .int .i64 f, .int .i64 g, .int .i64 h]) (.int .i64 2)).run Tryz.prog w = .ok (.agg #[.int .i64 e, .int .i64 f]) w := by kernel_rfl
theorem sidx3 (a b c d e f g h : Int) (w : World) : (Instr.index 171 (.agg #[.int .i64 a, .int .i64 b, .int .i64 c, .int .i64 d, .int .i64 e, .int .i64 f, .int .i64 g, .int .i64 h]) (.int .i64 3)).run Tryz.prog w = .ok (.agg #[.int .i64 g, .int .i64 h]) w := by kernel_rfl
theorem sides_idx (a b s : Pt) (j : Nat) (h : (sides a b)[j]? = some s) (w : World) :
    (Instr.index 171 (.agg #[.int .i64 a.ahead, .int .i64 a.own, .int .i64 a.ahead, .int .i64 b.own, .int .i64 b.ahead, .int .i64 a.own, .int .i64 b.ahead, .int .i64 b.own]) (.int .i64 j)).run Tryz.prog w = .ok (.agg #[.int .i64 s.ahead, .int .i64 s.own]) w := by
  match j, h with
  | 0, h => simp only [sides, List.getElem?_cons_zero, Option.some.injEq] at h; subst h; exact sidx0 ..
  | 1, h => simp only [sides, List.getElem?_cons_succ, List.getElem?_cons_zero, Option.some.injEq] at h; subst h; exact sidx1 ..
  | 2, h => simp only [sides, List.getElem?_cons_succ, List.getElem?_cons_zero, Option.some.injEq] at h; subst h; exact sidx2 ..
  | 3, h => simp only [sides, List.getElem?_cons_succ, List.getElem?_cons_zero, Option.some.injEq] at h; subst h; exact sidx3 ..
  | j + 4, h => simp [sides] at h
set_option maxRecDepth 100000 in
set_option maxHeartbeats 4000000 in
theorem least_c (l : List Tie) (u : Value) (N : Nat) (a b : Pt) (w : World) (hu : TiesAt w w.heap.size u l) (ok : NetOk l N) (hp : PtsOk l N a b) (hc : Can l) (hlen : l.length ≤ 1000) :
    Calls Tryz.prog 116 #[ovV N u a b] w fun e w' => ∃ M, e = .returned (.tuple #[.int .i64 (leastZ l a b), .agg (hgA (halfN N M))]) ∧ (Keeps l M ∧ tk M a b = leastZ l a b ∧ ∀ v, 0 ≤ v → v < (N : Int) → -687865856 ≤ M v ∧ M v ≤ 687865856) ∧ Below w.heap.size w w' := by
  obtain ⟨A, cap, rfl⟩ := Sl.form1 hu
  have hN1 : N ≤ 41 := by have := ok.le; omega
  obtain ⟨q0, q1, q2, -, qb⟩ := three_new w (.cells (ovA N (.slice A l.length cap) a b) 173) (.cells zeroH 124) (.cells zeroH 124)
  have HU := Lib.hid hu
  have HOK := Lib.hid ok
  have HP := Lib.hid hp
  have HC := Lib.hid hc
  have hidx := fun s j h W => sides_idx a b s j h W
  have HIX := Lib.hid hidx
  have hsp := fun W (fr : Nat) (hf : fr < N) hre (h : TiesAt W W.heap.size (.slice A l.length cap) l) => spread_c l (.slice A l.length cap) N fr W h ok hf hre hlen
  have HSP := Lib.hid hsp
  clear hu ok hp hc hlen hidx hsp
  unfold ovV ovA
  unfold ovA at q0 q1 q2 qb
  unfold zeroH at q0 q1 q2 qb
  go_enter Tryz.func116, Tryz.ntmps116
  go_wp2_with fail
  generalize ((w.alloc _).alloc _).alloc _ = W1 at q0 q1 q2 qb ⊢
  replace q1 : W1.heap[w.heap.size + 1]? = some (.cells (hgA (fun _ => 0)) 124) := by rw [← zeroH_eq]; exact q1
  replace q2 : W1.heap[w.heap.size + 1 + 1]? = some (.cells (hgA (fun _ => 0)) 124) := by rw [← zeroH_eq]; exact q2
  have c0 := Joins.cell_of_block q0 0
  have c1 := Joins.cell_of_block q0 1
  have c2 := Joins.cell_of_block q0 2
  have c3 := Joins.cell_of_block q0 3
  have c4 := Joins.cell_of_block q0 4
  have c5 := Joins.cell_of_block q0 5
  have c6 := Joins.cell_of_block q0 6
  have c7 := Joins.cell_of_block q0 7
  have c8 := Joins.cell_of_block q0 8
  have c9 := Joins.cell_of_block q0 9
  have z0 := size_of_block q0
  go_wp2_with fail
  clear c0 c1 c2 c3 c4 c5 c6 c7 c8 c9 z0
  go_loopw [5, 13] (fun s5 i wr => ∃ (j : Nat) (ls : Int) (F : Nat → Int), j ≤ 4 ∧ i = .int .i64 j ∧ s5 = .int .i64 ls ∧ Hid (LeastAt l N a b j ls F) ∧ wr.heap[w.heap.size]? = some (.cells #[.int .i64 N, .slice A l.length cap, .int .i64 a.ahead, .int .i64 a.own, .int .i64 a.ahead, .int .i64 b.own, .int .i64 b.ahead, .int .i64 a.own, .int .i64 b.ahead, .int .i64 b.own] 173) ∧ wr.heap[w.heap.size + 1]? = some (.cells (hgA (fun _ => 0)) 124) ∧ Hid (wr.heap[w.heap.size + 1 + 1]? = some (.cells (hgA F) 124)) ∧ Below w.heap.size w wr) (fun _ i _ => 4 - (intOf i).toNat)
  case atStart => exact ⟨0, _, _, by omega, rfl, rfl, Lib.hid ⟨by simp, .inl ⟨rfl, rfl⟩⟩, q0, q1, Lib.hid q2, qb⟩
  case round =>
    clear q0 q1 q2 qb
    obtain ⟨j, ls, F, hj, rfl, rfl, hL, q0, q1, hq2, qb⟩ := hrel
    by_cases hlt : j < 4
    · obtain ⟨s, hs⟩ : ∃ s, (sides a b)[j]? = some s := ⟨_, List.getElem?_eq_getElem (by rw [show (sides a b).length = 4 from rfl]; omega)⟩
      obtain ⟨h1, h2, h3⟩ := side_ok HP.out (List.mem_of_getElem? hs)
      have hix := HIX.out s j hs
      have hnx := fun M B hM => least_next (M := M) (B := B) hL.out hs hM HP.out
      obtain ⟨x, hx⟩ : ∃ x : Nat, s.own = x := ⟨s.own.toNat, by omega⟩
      obtain ⟨y, hy⟩ : ∃ y : Nat, s.ahead = y := ⟨s.ahead.toNat, by omega⟩
      have hx2 : x < N := by omega
      have hy2 : y < N := by omega
      rw [hx, hy] at hix
      rw [hx, hy] at hnx
      rw [hx] at h3
      have HNX := Lib.hid hnx
      have H3 := Lib.hid h3
      clear hnx h3 hx hy h1 h2 hs hL
      have c0 := Joins.cell_of_block q0 0
      have c1 := Joins.cell_of_block q0 1
      have z0 := size_of_block q0
      go_wp2_with fail
      have p0 := heap_alloc_new wr (.cells #[.int .i64 y, .int .i64 x] 160)
      have hb := below_alloc wr (.cells #[.int .i64 y, .int .i64 x] 160)
      clear c0 c1 z0
      have q2 := hq2.out
      clear hq2
      replace q0 := (hb.block _ (size_of_block q0)).trans q0
      replace q1 := (hb.block _ (size_of_block q1)).trans q1
      replace q2 := (hb.block _ (size_of_block q2)).trans q2
      have hwb := qb.size
      replace qb := below_then qb hb
      generalize wr.alloc _ = W3 at p0 q0 q1 q2 qb hb ⊢
      refine (HSP.out W3 x hx2 H3.out (HU.out.later qb)).mono ?_
      rintro e W4 ⟨M, B, loose, rfl, hres, hF⟩
      replace q0 := (hF.block _ (size_of_block q0)).trans q0
      replace q1 := (hF.block _ (size_of_block q1)).trans q1
      replace q2 := (hF.block _ (size_of_block q2)).trans q2
      replace p0 := (hF.block _ (size_of_block p0)).trans p0
      replace qb := below_then qb hF
      have hwb2 := hb.size
      have hwb3 := hF.size
      clear hF hb
      obtain ⟨W5, hW5⟩ : ∃ W5, W5 = (W4.alloc (.cells Tryz.zeroCells142 142)).setRow W4.heap.size (sprA x N M B) := ⟨_, rfl⟩
      have b5 : Below W4.heap.size W4 W5 := by rw [hW5]; exact below_setRow (below_alloc _ _) (Nat.le_refl _) _
      have r5 : W5.heap[W4.heap.size]? = some (.cells (sprA x N M B) 142) := by rw [hW5]; exact setRow_heap _ _ _ _ _ _ (heap_alloc_new W4 _)
      have HW5 := Lib.hid hW5
      replace q0 := (b5.block _ (size_of_block q0)).trans q0
      replace q1 := (b5.block _ (size_of_block q1)).trans q1
      replace q2 := (b5.block _ (size_of_block q2)).trans q2
      replace p0 := (b5.block _ (size_of_block p0)).trans p0
      replace qb := below_then qb b5
      clear b5 hW5
      have HSE : Hid (Settled l N x M B) := by
        rcases hres with ⟨_, h⟩ | h
        · exact h
        · obtain ⟨cc, hcc⟩ := h.circle
          exact absurd HC.out (can_circle hcc)
      clear hres
      have hmy := HSE.out.size (y : Int) (by omega) (by omega)
      have hn := HNX.out M B HSE.out
      have m1 := (Joins.cell_of_block r5 (1 + y)).trans (sprA_most hy2 hN1)
      have x0 := Joins.cell_of_block p0 0
      have zp := size_of_block p0
      have zr := size_of_block r5
      have hsub := half_sub (x : Int) N M B
      have HSB := Lib.hid hsub
      clear hsub
      generalize M (y : Int) = my at hmy hn m1
      by_cases hlt2 : -my < ls
      · rw [if_pos hlt2, if_pos hlt2] at hn
        have HN := Lib.hid hn
        clear hn
        go_wp2_with (first | (refine wpList_store_rowTo rfl 142 _ _ rfl rfl W4.heap.size (sprA x N M B) rfl rfl 142 _ (heap_alloc_new W4 _) (by kernel_rfl) (by rw [sprA_size]; kernel_rfl) (by rw [sprA_size]; kernel_rfl) ?_; rw [← HW5.out]))
        all_goals (try (exfalso; omega))
        refine wp_region_looseM [0, 3] [1, 2] .done [] [] [4] [] [] (by kernel_rfl) (by kernel_rfl) (by intro c a d v w h; cases d <;> exact h) (by intro c a d v w h; cases d <;> exact h) rfl (fun r i h => by simp at h) ?_
        simp only [pick, List.filterMap_cons, List.filterMap_nil, List.getElem?_toArray, List.getElem?_cons_succ, List.getElem?_cons_zero]
        refine wpPure_step (.int .i64 (-my)) rfl (fun u => by first | rfl | kernel_rfl | simp [execOp, go_sem]) ?_
        refine wpPure_step (.int .i64 (-my)) rfl (fun u => by first | rfl | kernel_rfl | simp [execOp, go_sem]) ?_
        intro u1 hu1
        replace q1 := (hu1.block _ (size_of_block q1)).trans q1
        replace r5 := (hu1.block _ (size_of_block r5)).trans r5
        replace q0 := (hu1.block _ (size_of_block q0)).trans q0
        replace q2 := (hu1.block _ (size_of_block q2)).trans q2
        replace qb := below_then qb hu1
        have zr5 := size_of_block r5
        have hcg : ∀ (g : Gr u1) b o, b < u1.heap.size → g.val.cell? ⟨b, o, none⟩ = u1.cell? ⟨b, o, none⟩ := fun g b o h => (bcell g.b).1 b o h
        iterate 2 (first | (refine wpRel_load_part rfl 124 _ rfl _ 1 rfl _ (sprA x N M B) (hgA (halfN N M)) _ _ r5 HSB.out Tryz.underlying124 rfl (by rw [hgA_size]; kernel_rfl) ?_; try simp only [Act.put, List.setIfInBounds_toArray, List.set_cons_zero, List.set_cons_succ]) | (refine wpRel_step (fun K hK => ?_); go_simp; refine hK _ ?_; clear hK K))
        refine wpRel_nil fun V1_0 hb1 => ?_
        clear hcg zr5
        replace q0 := (hb1.block _ (size_of_block q0)).trans q0
        replace q1 := (hb1.block _ (size_of_block q1)).trans q1
        replace q2 := (hb1.block _ (size_of_block q2)).trans q2
        replace r5 := (hb1.block _ (size_of_block r5)).trans r5
        replace qb := below_then qb hb1
        clear hb1 hu1
        show wpPure _ _ _ _
        intro ks hks _ _
        obtain rfl : ks = [] := List.length_eq_zero_iff.1 hks
        clear hks
        show wpList _ _ _ _ _ _
        simp only [deco]
        have hbs := below_setRow (Below.refl (w.heap.size + 1 + 1) V1_0) (Nat.le_refl _) (hgA (halfN N M))
        have q0' := (hbs.block _ (by omega)).trans q0
        have q1' := (hbs.block _ (by omega)).trans q1
        have q2' : (V1_0.setRow (w.heap.size + 1 + 1) (hgA (halfN N M))).heap[w.heap.size + 1 + 1]? = some (.cells (hgA (halfN N M)) 124) := setRow_heap _ _ _ _ _ _ q2
        have qb' := below_setRow qb (show w.heap.size ≤ w.heap.size + 1 + 1 by omega) (hgA (halfN N M))
        have HR1 := Lib.hid q0'
        have HR2 := Lib.hid q1'
        have HR3 := Lib.hid q2'
        have HR4 := Lib.hid qb'
        clear hbs q0' q1' q2' qb' q0 q1 qb
        refine wpList_store_rowTo rfl 124 _ _ rfl rfl (w.heap.size + 1 + 1) (hgA (halfN N M)) rfl rfl 124 _ q2 (by kernel_rfl) (by rw [hgA_size]; kernel_rfl) (by rw [hgA_size]; kernel_rfl) ?_
        go_wp2_with fail
        go_roundw
        case rel => exact ⟨j + 1, -my, halfN N M, by omega, by go_num, rfl, HN, HR1.out, HR2.out, HR3, HR4.out⟩
        case measure => simp [intOf]; omega
      · rw [if_neg hlt2, if_neg hlt2] at hn
        have HN := Lib.hid hn
        clear hn
        go_wp2_with (first | (refine wpList_store_rowTo rfl 142 _ _ rfl rfl W4.heap.size (sprA x N M B) rfl rfl 142 _ (heap_alloc_new W4 _) (by kernel_rfl) (by rw [sprA_size]; kernel_rfl) (by rw [sprA_size]; kernel_rfl) ?_; rw [← HW5.out]))
        all_goals (try (exfalso; omega))
        go_roundw
        case rel => exact ⟨j + 1, ls, F, by omega, by go_num, rfl, HN, q0, q1, Lib.hid q2, qb⟩
        case measure => simp [intOf]; omega
    · obtain rfl : j = 4 := by omega
      obtain ⟨hm, h2⟩ := hL.out
      rcases h2 with ⟨h2, _⟩ | ⟨s, hs, M, B, rfl, hM, h3⟩
      · omega
      have hm2 : ∀ t ∈ sides a b, -(dst l s.own s.ahead) ≤ -(dst l t.own t.ahead) := fun t ht => by rw [← h3]; exact hm t ht
      obtain ⟨s1, s2, s3⟩ := side_ok HP.out hs
      have e1 := least_in hs hm2
      rw [← h3] at e1
      have e2 := leastZ_at HP.out hs hM.keeps (by rw [hM.zero, dst_settled hM s1.1 s1.2]; omega) hm2
      have hsz := hM.size _ s1.1 s1.2
      rw [← dst_settled hM s1.1 s1.2] at hsz
      have hls : -687865856 ≤ ls ∧ ls ≤ 687865856 := by omega
      have HKP := Lib.hid hM.keeps
      have HSZ := Lib.hid hM.size
      have E1 := Lib.hid e1
      have E2 := Lib.hid e2
      have q2 := hq2.out
      clear hm hM hm2 s1 s2 s3 e1 e2 hsz hs hq2 hL h3
      go_wp2_with fail
      refine wp_region_looseM [0, 1, 3] [2] .done [] [] [4] [] [] (by kernel_rfl) (by kernel_rfl) (by intro c a d v w h; cases d <;> exact h) (by intro c a d v w h; cases d <;> exact h) rfl (fun r i h => by simp at h) ?_
      simp only [pick, List.filterMap_cons, List.filterMap_nil, List.getElem?_toArray, List.getElem?_cons_succ, List.getElem?_cons_zero]
      refine wpPure_step (.int .i64 ls) rfl (fun u => by first | rfl | kernel_rfl | simp [execOp, go_sem]) ?_
      refine wpPure_step (.int .i64 (max ls 0)) rfl (fun u => by simp [go_sem]) ?_
      refine wpPure_step (.int .i64 (max ls 0)) rfl (fun u => by first | rfl | kernel_rfl | simp [execOp, go_sem]) ?_
      intro u1 hu1
      replace q1 := (hu1.block _ (size_of_block q1)).trans q1
      replace q2 := (hu1.block _ (size_of_block q2)).trans q2
      replace qb := below_then qb hu1
      have zq2 := size_of_block q2
      have hcg : ∀ (g : Gr u1) b o, b < u1.heap.size → g.val.cell? ⟨b, o, none⟩ = u1.cell? ⟨b, o, none⟩ := fun g b o h => (bcell g.b).1 b o h
      iterate 1 (first | (refine wpRel_load_row rfl 124 _ rfl _ rfl _ (hgA (halfN N M)) _ _ q2 Tryz.underlying124 rfl (by rw [hgA_size]; kernel_rfl) ?_; try simp only [Act.put, List.setIfInBounds_toArray, List.set_cons_zero, List.set_cons_succ]) | (refine wpRel_step (fun K hK => ?_); go_simp; refine hK _ ?_; clear hK K))
      refine wpRel_nil fun V1_0 hb1 => ?_
      clear hcg zq2
      replace q1 := (hb1.block _ (size_of_block q1)).trans q1
      replace q2 := (hb1.block _ (size_of_block q2)).trans q2
      replace qb := below_then qb hb1
      clear hb1 hu1
      show wpPure _ _ _ _
      intro ks hks _ _
      obtain rfl : ks = [] := List.length_eq_zero_iff.1 hks
      clear hks
      show wpList _ _ _ _ _ _
      simp only [deco]
      have HV := Lib.hid (run_loadVar_row (P := Tryz.prog) (V1_0.setRow (w.heap.size + 1) (hgA (halfN N M))) (w.heap.size + 1) 124 124 (hgA (halfN N M)) (0, 0) _ (setRow_heap _ _ _ _ _ _ q1) Tryz.underlying124 rfl (by rw [hgA_size]; kernel_rfl))
      have hBF := Lib.hid (below_setRow qb (show w.heap.size ≤ w.heap.size + 1 by omega) (hgA (halfN N M)))
      refine wpList_store_rowTo rfl 124 _ _ rfl rfl (w.heap.size + 1) (hgA (halfN N M)) rfl rfl 124 _ q1 (by kernel_rfl) (by rw [hgA_size]; kernel_rfl) (by rw [hgA_size]; kernel_rfl) ?_
      go_wp2_with fail
      refine bodyPost_ret (v := .tuple #[.int .i64 (max ls 0), .agg (hgA (halfN N M))]) ?_ rfl ⟨M, by rw [E1.out], ⟨HKP.out, E2.out, HSZ.out⟩, hBF.out⟩
      simp [results, Tryz.results116, asAddr, HV.out]
end Go.Proofs.YtnedcclmfokdnaaGreat
namespace Go.Proofs.YtnedcclmfokdnaaGreat
open Go Go.RowKit Go.Shelf
attribute [local go_sem] Oper.semAt_some Rel RelAt RelUpon
def mcA (p1 p2 p3 p4 z : Int) : Nat → Array Value
  | 0 => #[.int .i64 0, .int .i64 0, .int .i64 0, .int .i64 0, .int .i64 0, .int .i64 0, .int .i64 0, .int .i64 0, .int .i64 0, .int .i64 0, .int .i64 0, .int .i64 0, .int .i64 0, .int .i64 0, .int .i64 0, .int .i64 0]
  | 1 => #[.int .i64 p2, .int .i64 p1, .int .i64 (-z), .int .i64 0, .int .i64 0, .int .i64 0, .int .i64 0, .int .i64 0, .int .i64 0, .int .i64 0, .int .i64 0, .int .i64 0, .int .i64 0, .int .i64 0, .int .i64 0, .int .i64 0]
  | 2 => #[.int .i64 p2, .int .i64 p1, .int .i64 (-z), .int .i64 0, .int .i64 p4, .int .i64 p1, .int .i64 (-z), .int .i64 0, .int .i64 0, .int .i64 0, .int .i64 0, .int .i64 0, .int .i64 0, .int .i64 0, .int .i64 0, .int .i64 0]
  | 3 => #[.int .i64 p2, .int .i64 p1, .int .i64 (-z), .int .i64 0, .int .i64 p4, .int .i64 p1, .int .i64 (-z), .int .i64 0, .int .i64 p2, .int .i64 p3, .int .i64 (-z), .int .i64 0, .int .i64 0, .int .i64 0, .int .i64 0, .int .i64 0]
  | _ => #[.int .i64 p2, .int .i64 p1, .int .i64 (-z), .int .i64 0, .int .i64 p4, .int .i64 p1, .int .i64 (-z), .int .i64 0, .int .i64 p2, .int .i64 p3, .int .i64 (-z), .int .i64 0, .int .i64 p4, .int .i64 p3, .int .i64 (-z), .int .i64 0]
theorem mcA_ties (w : World) (b B : Nat) (t : TypeId) (p1 p2 p3 p4 z : Int) (h : w.heap[b]? = some (.cells (mcA p1 p2 p3 p4 z 4) t)) (hb : b < B) : TiesAt w B (.slice (some ⟨b, 0, none⟩) 4 4) (moreT ⟨p1, p2⟩ ⟨p3, p4⟩ z) :=
  ⟨some ⟨b, 0, none⟩, 4, rfl, Nat.le_refl 4, by show 4 ≤ _; omega, fun _ => ⟨b, 0, rfl, hb, fun i x hx j u hu => by
    rw [Joins.cell_of_block h]
    have e : mcA p1 p2 p3 p4 z 4 = ((moreT ⟨p1, p2⟩ ⟨p3, p4⟩ z).flatMap tC).toArray := rfl
    rw [e, List.getElem?_toArray, show 0 + i * 4 + j = i * 4 + j by omega]
    exact flat_at tC_len _ i x j u hx hu⟩⟩
attribute [local go_sem] sidx0 sidx1 sidx2 sidx3
set_option maxRecDepth 100000 in
set_option maxHeartbeats 4000000 in
theorem reaches_c (l : List Tie) (u : Value) (N : Nat) (a b : Pt) (z : Int) (w : World) (hu : TiesAt w w.heap.size u l) (ok : NetOk (l ++ moreT a b z) N) (hn0 : 0 < N) (hre : Reaches (l ++ moreT a b z) N 0) (hz : 1 ≤ z ∧ z ≤ 1048576) (hlen : l.length ≤ 900) :
    Calls Tryz.prog 120 #[ovV N u a b, .int .i64 z] w fun e w' => ∃ (F : Nat → Int) (r : Bool), e = .returned (.tuple #[.agg (hgA F), .bool r]) ∧ ((r = true ∧ ∃ M B, F = halfN N M ∧ Settled (l ++ moreT a b z) N 0 M B) ∨ (r = false ∧ ¬ CanZ l a b z)) ∧ Below w.heap.size w w' := by
  obtain ⟨A, cap, rfl⟩ := Sl.form1 hu
  obtain ⟨p1, p2⟩ := a
  obtain ⟨p3, p4⟩ := b
  have hN1 : N ≤ 41 := by have := ok.le; omega
  obtain ⟨q0, q1, q2, -, qb⟩ := three_new w (.cells #[.int .i64 N, .slice A l.length cap, .int .i64 p1, .int .i64 p2, .int .i64 p1, .int .i64 p4, .int .i64 p3, .int .i64 p2, .int .i64 p3, .int .i64 p4] 173) (.cells zeroH 124) (.cells #[.int .i64 0, .int .i64 0, .int .i64 0, .int .i64 0, .int .i64 0, .int .i64 0, .int .i64 0, .int .i64 0, .int .i64 0, .int .i64 0, .int .i64 0, .int .i64 0, .int .i64 0, .int .i64 0, .int .i64 0, .int .i64 0] 210)
  have HU := Lib.hid hu
  have hwc := fun W v (h1 : TiesAt W W.heap.size (.slice A l.length cap) l) (h2 : TiesAt W W.heap.size v (moreT ⟨p1, p2⟩ ⟨p3, p4⟩ z)) => with_c l (moreT ⟨p1, p2⟩ ⟨p3, p4⟩ z) N (.slice A l.length cap) v W h1 h2 (by omega) (by show 4 ≤ _; omega)
  have hsp := fun W v (h : TiesAt W W.heap.size v (l ++ moreT ⟨p1, p2⟩ ⟨p3, p4⟩ z)) => spread_c (l ++ moreT ⟨p1, p2⟩ ⟨p3, p4⟩ z) v N 0 W h ok hn0 hre (by rw [List.length_append]; show _ + 4 ≤ _; omega)
  have HWC := Lib.hid hwc
  have HSP := Lib.hid hsp
  clear hu ok hre hlen hwc hsp
  unfold ovV ovA
  unfold zeroH at q0 q1 q2 qb
  go_enter Tryz.func120, Tryz.ntmps120
  go_wp2_with fail
  generalize ((w.alloc _).alloc _).alloc _ = W1 at q0 q1 q2 qb ⊢
  replace q1 : W1.heap[w.heap.size + 1]? = some (.cells (hgA (fun _ => 0)) 124) := by rw [← zeroH_eq]; exact q1
  replace q2 : W1.heap[w.heap.size + 1 + 1]? = some (.cells (mcA p1 p2 p3 p4 z 0) 210) := q2
  have c0 := Joins.cell_of_block q0 0
  have c1 := Joins.cell_of_block q0 1
  have c2 := Joins.cell_of_block q0 2
  have c3 := Joins.cell_of_block q0 3
  have c4 := Joins.cell_of_block q0 4
  have c5 := Joins.cell_of_block q0 5
  have c6 := Joins.cell_of_block q0 6
  have c7 := Joins.cell_of_block q0 7
  have c8 := Joins.cell_of_block q0 8
  have c9 := Joins.cell_of_block q0 9
  have z0 := size_of_block q0
  go_wp2_with fail
  clear c0 c1 c2 c3 c4 c5 c6 c7 c8 c9 z0
  go_loopw [13] (fun i wr => ∃ j : Nat, j ≤ 4 ∧ i = .int .i64 j ∧ wr.heap[w.heap.size]? = some (.cells #[.int .i64 N, .slice A l.length cap, .int .i64 p1, .int .i64 p2, .int .i64 p1, .int .i64 p4, .int .i64 p3, .int .i64 p2, .int .i64 p3, .int .i64 p4] 173) ∧ wr.heap[w.heap.size + 1]? = some (.cells (hgA (fun _ => 0)) 124) ∧ Hid (wr.heap[w.heap.size + 1 + 1]? = some (.cells (mcA p1 p2 p3 p4 z j) 210)) ∧ Below w.heap.size w wr) (fun i _ => 4 - (intOf i).toNat)
  case atStart => exact ⟨0, by omega, rfl, q0, q1, Lib.hid q2, qb⟩
  case round =>
    clear q0 q1 q2 qb
    obtain ⟨j, hj, rfl, q0, q1, hq2, qb⟩ := hrel
    have q2 := hq2.out
    clear hq2
    have hws := size_of_block q2
    obtain rfl | rfl | rfl | rfl | rfl : j = 0 ∨ j = 1 ∨ j = 2 ∨ j = 3 ∨ j = 4 := by omega
    · rw [show ((0 : Nat) : Int) = 0 from rfl]
      simp only [mcA] at q2
      have e0 := Joins.cell_of_block q2 0
      have f0 := Joins.unfrozen_of_block q2 0
      have e1 := Joins.cell_of_block q2 1
      have f1 := Joins.unfrozen_of_block q2 1
      have e2 := Joins.cell_of_block q2 2
      have f2 := Joins.unfrozen_of_block q2 2
      have e3 := Joins.cell_of_block q2 3
      have f3 := Joins.unfrozen_of_block q2 3
      go_wp2_with fail
      go_roundw
      case rel =>
        have k2 := (Joins.block_setCell (i := 3) (Joins.block_setCell (i := 2) (Joins.block_setCell (i := 1) (Joins.block_setCell (i := 0) q2 (.int .i64 p2)) (.int .i64 p1)) (.int .i64 (-z))) (.int .i64 0))
        replace k2 : (((((wr).setCell ⟨w.heap.size + 1 + 1, 0, none⟩ (.int .i64 p2)).setCell ⟨w.heap.size + 1 + 1, 1, none⟩ (.int .i64 p1)).setCell ⟨w.heap.size + 1 + 1, 2, none⟩ (.int .i64 (-z))).setCell ⟨w.heap.size + 1 + 1, 3, none⟩ (.int .i64 0)).heap[w.heap.size + 1 + 1]? = some (.cells (mcA p1 p2 p3 p4 z 1) 210) := k2
        have k0 := ((put_other (i := 3) (.int .i64 0) (show w.heap.size ≠ w.heap.size + 1 + 1 by omega)).trans ((put_other (i := 2) (.int .i64 (-z)) (show w.heap.size ≠ w.heap.size + 1 + 1 by omega)).trans ((put_other (i := 1) (.int .i64 p1) (show w.heap.size ≠ w.heap.size + 1 + 1 by omega)).trans (put_other (i := 0) (.int .i64 p2) (show w.heap.size ≠ w.heap.size + 1 + 1 by omega))))).trans q0
        have k1 := ((put_other (i := 3) (.int .i64 0) (show w.heap.size + 1 ≠ w.heap.size + 1 + 1 by omega)).trans ((put_other (i := 2) (.int .i64 (-z)) (show w.heap.size + 1 ≠ w.heap.size + 1 + 1 by omega)).trans ((put_other (i := 1) (.int .i64 p1) (show w.heap.size + 1 ≠ w.heap.size + 1 + 1 by omega)).trans (put_other (i := 0) (.int .i64 p2) (show w.heap.size + 1 ≠ w.heap.size + 1 + 1 by omega))))).trans q1
        have kb := (below_set (v := .int .i64 0) (i := 3) (below_set (v := .int .i64 (-z)) (i := 2) (below_set (v := .int .i64 p1) (i := 1) (below_set (v := .int .i64 p2) (i := 0) qb (show w.heap.size ≤ w.heap.size + 1 + 1 by omega)) (show w.heap.size ≤ w.heap.size + 1 + 1 by omega)) (show w.heap.size ≤ w.heap.size + 1 + 1 by omega)) (show w.heap.size ≤ w.heap.size + 1 + 1 by omega))
        have hb := below_alloc (((((wr).setCell ⟨w.heap.size + 1 + 1, 0, none⟩ (.int .i64 p2)).setCell ⟨w.heap.size + 1 + 1, 1, none⟩ (.int .i64 p1)).setCell ⟨w.heap.size + 1 + 1, 2, none⟩ (.int .i64 (-z))).setCell ⟨w.heap.size + 1 + 1, 3, none⟩ (.int .i64 0)) (.cells #[.int .i64 p1, .int .i64 p2] 160)
        exact ⟨1, by omega, rfl, (hb.block _ (size_of_block k0)).trans k0, (hb.block _ (size_of_block k1)).trans k1, Lib.hid ((hb.block _ (size_of_block k2)).trans k2), below_then kb hb⟩
      case measure => simp [intOf]
    · rw [show ((1 : Nat) : Int) = 1 from rfl]
      simp only [mcA] at q2
      have e4 := Joins.cell_of_block q2 4
      have f4 := Joins.unfrozen_of_block q2 4
      have e5 := Joins.cell_of_block q2 5
      have f5 := Joins.unfrozen_of_block q2 5
      have e6 := Joins.cell_of_block q2 6
      have f6 := Joins.unfrozen_of_block q2 6
      have e7 := Joins.cell_of_block q2 7
      have f7 := Joins.unfrozen_of_block q2 7
      go_wp2_with fail
      go_roundw
      case rel =>
        have k2 := (Joins.block_setCell (i := 7) (Joins.block_setCell (i := 6) (Joins.block_setCell (i := 5) (Joins.block_setCell (i := 4) q2 (.int .i64 p4)) (.int .i64 p1)) (.int .i64 (-z))) (.int .i64 0))
        replace k2 : (((((wr).setCell ⟨w.heap.size + 1 + 1, 4, none⟩ (.int .i64 p4)).setCell ⟨w.heap.size + 1 + 1, 5, none⟩ (.int .i64 p1)).setCell ⟨w.heap.size + 1 + 1, 6, none⟩ (.int .i64 (-z))).setCell ⟨w.heap.size + 1 + 1, 7, none⟩ (.int .i64 0)).heap[w.heap.size + 1 + 1]? = some (.cells (mcA p1 p2 p3 p4 z 2) 210) := k2
        have k0 := ((put_other (i := 7) (.int .i64 0) (show w.heap.size ≠ w.heap.size + 1 + 1 by omega)).trans ((put_other (i := 6) (.int .i64 (-z)) (show w.heap.size ≠ w.heap.size + 1 + 1 by omega)).trans ((put_other (i := 5) (.int .i64 p1) (show w.heap.size ≠ w.heap.size + 1 + 1 by omega)).trans (put_other (i := 4) (.int .i64 p4) (show w.heap.size ≠ w.heap.size + 1 + 1 by omega))))).trans q0
        have k1 := ((put_other (i := 7) (.int .i64 0) (show w.heap.size + 1 ≠ w.heap.size + 1 + 1 by omega)).trans ((put_other (i := 6) (.int .i64 (-z)) (show w.heap.size + 1 ≠ w.heap.size + 1 + 1 by omega)).trans ((put_other (i := 5) (.int .i64 p1) (show w.heap.size + 1 ≠ w.heap.size + 1 + 1 by omega)).trans (put_other (i := 4) (.int .i64 p4) (show w.heap.size + 1 ≠ w.heap.size + 1 + 1 by omega))))).trans q1
        have kb := (below_set (v := .int .i64 0) (i := 7) (below_set (v := .int .i64 (-z)) (i := 6) (below_set (v := .int .i64 p1) (i := 5) (below_set (v := .int .i64 p4) (i := 4) qb (show w.heap.size ≤ w.heap.size + 1 + 1 by omega)) (show w.heap.size ≤ w.heap.size + 1 + 1 by omega)) (show w.heap.size ≤ w.heap.size + 1 + 1 by omega)) (show w.heap.size ≤ w.heap.size + 1 + 1 by omega))
        have hb := below_alloc (((((wr).setCell ⟨w.heap.size + 1 + 1, 4, none⟩ (.int .i64 p4)).setCell ⟨w.heap.size + 1 + 1, 5, none⟩ (.int .i64 p1)).setCell ⟨w.heap.size + 1 + 1, 6, none⟩ (.int .i64 (-z))).setCell ⟨w.heap.size + 1 + 1, 7, none⟩ (.int .i64 0)) (.cells #[.int .i64 p1, .int .i64 p4] 160)
        exact ⟨2, by omega, rfl, (hb.block _ (size_of_block k0)).trans k0, (hb.block _ (size_of_block k1)).trans k1, Lib.hid ((hb.block _ (size_of_block k2)).trans k2), below_then kb hb⟩
      case measure => simp [intOf]
    · rw [show ((2 : Nat) : Int) = 2 from rfl]
      simp only [mcA] at q2
      have e8 := Joins.cell_of_block q2 8
      have f8 := Joins.unfrozen_of_block q2 8
      have e9 := Joins.cell_of_block q2 9
      have f9 := Joins.unfrozen_of_block q2 9
      have e10 := Joins.cell_of_block q2 10
      have f10 := Joins.unfrozen_of_block q2 10
      have e11 := Joins.cell_of_block q2 11
      have f11 := Joins.unfrozen_of_block q2 11
      go_wp2_with fail
      go_roundw
      case rel =>
        have k2 := (Joins.block_setCell (i := 11) (Joins.block_setCell (i := 10) (Joins.block_setCell (i := 9) (Joins.block_setCell (i := 8) q2 (.int .i64 p2)) (.int .i64 p3)) (.int .i64 (-z))) (.int .i64 0))
        replace k2 : (((((wr).setCell ⟨w.heap.size + 1 + 1, 8, none⟩ (.int .i64 p2)).setCell ⟨w.heap.size + 1 + 1, 9, none⟩ (.int .i64 p3)).setCell ⟨w.heap.size + 1 + 1, 10, none⟩ (.int .i64 (-z))).setCell ⟨w.heap.size + 1 + 1, 11, none⟩ (.int .i64 0)).heap[w.heap.size + 1 + 1]? = some (.cells (mcA p1 p2 p3 p4 z 3) 210) := k2
        have k0 := ((put_other (i := 11) (.int .i64 0) (show w.heap.size ≠ w.heap.size + 1 + 1 by omega)).trans ((put_other (i := 10) (.int .i64 (-z)) (show w.heap.size ≠ w.heap.size + 1 + 1 by omega)).trans ((put_other (i := 9) (.int .i64 p3) (show w.heap.size ≠ w.heap.size + 1 + 1 by omega)).trans (put_other (i := 8) (.int .i64 p2) (show w.heap.size ≠ w.heap.size + 1 + 1 by omega))))).trans q0
        have k1 := ((put_other (i := 11) (.int .i64 0) (show w.heap.size + 1 ≠ w.heap.size + 1 + 1 by omega)).trans ((put_other (i := 10) (.int .i64 (-z)) (show w.heap.size + 1 ≠ w.heap.size + 1 + 1 by omega)).trans ((put_other (i := 9) (.int .i64 p3) (show w.heap.size + 1 ≠ w.heap.size + 1 + 1 by omega)).trans (put_other (i := 8) (.int .i64 p2) (show w.heap.size + 1 ≠ w.heap.size + 1 + 1 by omega))))).trans q1
        have kb := (below_set (v := .int .i64 0) (i := 11) (below_set (v := .int .i64 (-z)) (i := 10) (below_set (v := .int .i64 p3) (i := 9) (below_set (v := .int .i64 p2) (i := 8) qb (show w.heap.size ≤ w.heap.size + 1 + 1 by omega)) (show w.heap.size ≤ w.heap.size + 1 + 1 by omega)) (show w.heap.size ≤ w.heap.size + 1 + 1 by omega)) (show w.heap.size ≤ w.heap.size + 1 + 1 by omega))
        have hb := below_alloc (((((wr).setCell ⟨w.heap.size + 1 + 1, 8, none⟩ (.int .i64 p2)).setCell ⟨w.heap.size + 1 + 1, 9, none⟩ (.int .i64 p3)).setCell ⟨w.heap.size + 1 + 1, 10, none⟩ (.int .i64 (-z))).setCell ⟨w.heap.size + 1 + 1, 11, none⟩ (.int .i64 0)) (.cells #[.int .i64 p3, .int .i64 p2] 160)
        exact ⟨3, by omega, rfl, (hb.block _ (size_of_block k0)).trans k0, (hb.block _ (size_of_block k1)).trans k1, Lib.hid ((hb.block _ (size_of_block k2)).trans k2), below_then kb hb⟩
      case measure => simp [intOf]
    · rw [show ((3 : Nat) : Int) = 3 from rfl]
      simp only [mcA] at q2
      have e12 := Joins.cell_of_block q2 12
      have f12 := Joins.unfrozen_of_block q2 12
      have e13 := Joins.cell_of_block q2 13
      have f13 := Joins.unfrozen_of_block q2 13
      have e14 := Joins.cell_of_block q2 14
      have f14 := Joins.unfrozen_of_block q2 14
      have e15 := Joins.cell_of_block q2 15
      have f15 := Joins.unfrozen_of_block q2 15
      go_wp2_with fail
      go_roundw
      case rel =>
        have k2 := (Joins.block_setCell (i := 15) (Joins.block_setCell (i := 14) (Joins.block_setCell (i := 13) (Joins.block_setCell (i := 12) q2 (.int .i64 p4)) (.int .i64 p3)) (.int .i64 (-z))) (.int .i64 0))
        replace k2 : (((((wr).setCell ⟨w.heap.size + 1 + 1, 12, none⟩ (.int .i64 p4)).setCell ⟨w.heap.size + 1 + 1, 13, none⟩ (.int .i64 p3)).setCell ⟨w.heap.size + 1 + 1, 14, none⟩ (.int .i64 (-z))).setCell ⟨w.heap.size + 1 + 1, 15, none⟩ (.int .i64 0)).heap[w.heap.size + 1 + 1]? = some (.cells (mcA p1 p2 p3 p4 z 4) 210) := k2
        have k0 := ((put_other (i := 15) (.int .i64 0) (show w.heap.size ≠ w.heap.size + 1 + 1 by omega)).trans ((put_other (i := 14) (.int .i64 (-z)) (show w.heap.size ≠ w.heap.size + 1 + 1 by omega)).trans ((put_other (i := 13) (.int .i64 p3) (show w.heap.size ≠ w.heap.size + 1 + 1 by omega)).trans (put_other (i := 12) (.int .i64 p4) (show w.heap.size ≠ w.heap.size + 1 + 1 by omega))))).trans q0
        have k1 := ((put_other (i := 15) (.int .i64 0) (show w.heap.size + 1 ≠ w.heap.size + 1 + 1 by omega)).trans ((put_other (i := 14) (.int .i64 (-z)) (show w.heap.size + 1 ≠ w.heap.size + 1 + 1 by omega)).trans ((put_other (i := 13) (.int .i64 p3) (show w.heap.size + 1 ≠ w.heap.size + 1 + 1 by omega)).trans (put_other (i := 12) (.int .i64 p4) (show w.heap.size + 1 ≠ w.heap.size + 1 + 1 by omega))))).trans q1
        have kb := (below_set (v := .int .i64 0) (i := 15) (below_set (v := .int .i64 (-z)) (i := 14) (below_set (v := .int .i64 p3) (i := 13) (below_set (v := .int .i64 p4) (i := 12) qb (show w.heap.size ≤ w.heap.size + 1 + 1 by omega)) (show w.heap.size ≤ w.heap.size + 1 + 1 by omega)) (show w.heap.size ≤ w.heap.size + 1 + 1 by omega)) (show w.heap.size ≤ w.heap.size + 1 + 1 by omega))
        have hb := below_alloc (((((wr).setCell ⟨w.heap.size + 1 + 1, 12, none⟩ (.int .i64 p4)).setCell ⟨w.heap.size + 1 + 1, 13, none⟩ (.int .i64 p3)).setCell ⟨w.heap.size + 1 + 1, 14, none⟩ (.int .i64 (-z))).setCell ⟨w.heap.size + 1 + 1, 15, none⟩ (.int .i64 0)) (.cells #[.int .i64 p3, .int .i64 p4] 160)
        exact ⟨4, by omega, rfl, (hb.block _ (size_of_block k0)).trans k0, (hb.block _ (size_of_block k1)).trans k1, Lib.hid ((hb.block _ (size_of_block k2)).trans k2), below_then kb hb⟩
      case measure => simp [intOf]
    · go_wp2_with fail
      refine wp_region_looseM [] [0, 1, 2] (.one 3 (.one 4 .done)) [8] [5, 6, 7] [9, 10] [some 9] [.cells Tryz.zeroCells142 142] (by kernel_rfl) (by kernel_rfl) (by intro c a d v w h; cases d <;> exact h) (by intro c a d v w h; cases d <;> exact h) rfl (by intro r i hri; match r, hri with | 0, hri => cases hri; exact ⟨_, _, rfl, rfl, rfl, rfl, fun a u => by simp [execOp, go_sem, ptrV]⟩) ?_
      simp only [pick, List.filterMap_cons, List.filterMap_nil, List.getElem?_toArray, List.getElem?_cons_succ, List.getElem?_cons_zero]
      intro u1 hu1
      replace q2 := (hu1.block _ (size_of_block q2)).trans q2
      replace q1 := (hu1.block _ (size_of_block q1)).trans q1
      replace q0 := (hu1.block _ (size_of_block q0)).trans q0
      replace qb := below_then qb hu1
      have cq00 := Joins.cell_of_block q0 0
      have cq01 := Joins.cell_of_block q0 1
      have zq0 := size_of_block q0
      have hcg : ∀ (g : Gr u1) b o, b < u1.heap.size → g.val.cell? ⟨b, o, none⟩ = u1.cell? ⟨b, o, none⟩ := fun g b o h => (bcell g.b).1 b o h
      iterate 3 (refine wpRel_step (fun K hK => ?_); go_simp; refine hK _ ?_; clear hK K)
      refine wpRel_nil fun V1_0 hb1 => ?_
      clear hcg cq00 cq01 zq0
      replace q0 := (hb1.block _ (size_of_block q0)).trans q0
      replace q1 := (hb1.block _ (size_of_block q1)).trans q1
      replace q2 := (hb1.block _ (size_of_block q2)).trans q2
      replace qb := below_then qb hb1
      clear hb1 hu1
      refine wpTr_step rfl rfl fun K hK => ?_
      go_simp
      refine (HWC.out V1_0 (.slice (some ⟨w.heap.size + 1 + 1, 0, none⟩) 4 4) (HU.out.later qb) (mcA_ties V1_0 _ _ _ _ _ _ _ _ q2 (size_of_block q2))).mono ?_
      rintro e X ⟨u, rfl, hT, hx⟩
      refine hK _ _ hx fun V1_1 hu => ?_
      clear hK K
      have hxu := below_then hx hu
      replace hT := hT.later hu
      replace q0 := (hxu.block _ (size_of_block q0)).trans q0
      replace q1 := (hxu.block _ (size_of_block q1)).trans q1
      replace q2 := (hxu.block _ (size_of_block q2)).trans q2
      replace qb := below_then qb hxu
      clear hx hu hxu
      refine wpTr_step rfl rfl fun K hK => ?_
      go_simp
      refine (HSP.out V1_1 u hT).mono ?_
      rintro e X ⟨M, B, loose, rfl, hres, hx⟩
      refine hK _ _ hx fun V1_2 hu => ?_
      clear hK K
      have hxu := below_then hx hu
      replace q0 := (hxu.block _ (size_of_block q0)).trans q0
      replace q1 := (hxu.block _ (size_of_block q1)).trans q1
      replace q2 := (hxu.block _ (size_of_block q2)).trans q2
      replace qb := below_then qb hxu
      clear hx hu hxu
      show wpPure _ _ _ _
      refine wpPure_step (.tuple #[.agg (sprA ((0 : Nat) : Int) N M B), .int .i64 loose]) rfl (fun u => rfl) ?_
      refine wpPure_step (.agg (sprA ((0 : Nat) : Int) N M B)) rfl (fun u => rfl) ?_
      refine wpPure_step (.int .i64 loose) rfl (fun u => rfl) ?_
      intro ks hks hall hH
      obtain ⟨k1, rfl⟩ : ∃ k1, ks = [some k1] := by
        match ks, hks with
        | [none], _ => exact absurd rfl (hall 0)
        | [some k1], _ => exact ⟨k1, rfl⟩
      obtain ⟨o1, ge1, lt1⟩ := hH.obj 0 k1 rfl
      rw [show ([Obj.cells Tryz.zeroCells142 142])[0]? = some (.cells Tryz.zeroCells142 142) from rfl] at o1
      clear hH hall hks
      show wpList _ _ _ _ _ _
      simp only [deco, ptrV]
      refine wpList_store_rowTo rfl 142 _ _ rfl rfl k1 (sprA ((0 : Nat) : Int) N M B) rfl rfl 142 _ o1 (by kernel_rfl) (by rw [sprA_size]; kernel_rfl) (by rw [sprA_size]; kernel_rfl) ?_
      have r5 : (V1_2.setRow k1 (sprA ((0 : Nat) : Int) N M B)).heap[k1]? = some (.cells (sprA ((0 : Nat) : Int) N M B) 142) := setRow_heap _ _ _ _ _ _ o1
      have hb5 := below_setRow (Below.refl k1 V1_2) (Nat.le_refl _) (sprA ((0 : Nat) : Int) N M B)
      replace q1 := (hb5.block _ (show w.heap.size + 1 < k1 by omega)).trans q1
      replace qb := below_setRow qb (show w.heap.size ≤ k1 by have := qb.size; omega) (sprA ((0 : Nat) : Int) N M B)
      have hsub := half_sub ((0 : Nat) : Int) N M B
      have HSB := Lib.hid hsub
      generalize V1_2.setRow k1 (sprA ((0 : Nat) : Int) N M B) = W5 at r5 q1 qb ⊢
      have HV := Lib.hid (run_loadVar_row (P := Tryz.prog) (W5.setRow (w.heap.size + 1) (hgA (halfN N M))) (w.heap.size + 1) 124 124 (hgA (halfN N M)) (0, 0) _ (setRow_heap _ _ _ _ _ _ q1) Tryz.underlying124 rfl (by rw [hgA_size]; kernel_rfl))
      have hBF := Lib.hid (below_setRow qb (show w.heap.size ≤ w.heap.size + 1 by omega) (hgA (halfN N M)))
      have HRS : Hid ((loose == -1) = true ∧ Settled (l ++ moreT ⟨p1, p2⟩ ⟨p3, p4⟩ z) N 0 M B ∨ (loose == -1) = false ∧ ¬ CanZ l ⟨p1, p2⟩ ⟨p3, p4⟩ z) := by
        rcases hres with ⟨rfl, hs⟩ | hs
        · exact .inl ⟨rfl, hs⟩
        · obtain ⟨cc, hcc⟩ := hs.circle
          exact .inr ⟨beq_eq_false_iff_ne.2 (by have := hs.rng.1; omega), can_circle hcc⟩
      clear hres hsub hb5 o1 ge1 lt1 q0 q2 hT
      generalize hrr : (loose == -1) = rr at HRS
      go_wp2_with (first | (refine wpList_load_part rfl 124 _ rfl k1 1 rfl 142 (sprA ((0 : Nat) : Int) N M B) (hgA (halfN N M)) (0, 0) _ r5 HSB.out Tryz.underlying124 rfl (by rw [hgA_size]; kernel_rfl) ?_) | (refine wpList_store_rowTo rfl 124 _ _ rfl rfl (w.heap.size + 1) (hgA (halfN N M)) rfl rfl 124 _ q1 (by kernel_rfl) (by rw [hgA_size]; kernel_rfl) (by rw [hgA_size]; kernel_rfl) ?_))
      refine bodyPost_ret (v := .tuple #[.agg (hgA (halfN N M)), .bool rr]) ?_ rfl ⟨halfN N M, rr, rfl, ?_, hBF.out⟩
      · simp [results, Tryz.results120, asAddr, HV.out]
      · rcases HRS.out with ⟨h1, h2⟩ | ⟨h1, h2⟩
        · exact .inl ⟨h1, M, B, rfl, h2⟩
        · exact .inr ⟨h1, h2⟩
end Go.Proofs.YtnedcclmfokdnaaGreat
namespace Go.Proofs.YtnedcclmfokdnaaGreat
open Go Go.RowKit Go.Shelf
attribute [local go_sem] Oper.semAt_some Rel RelAt RelUpon
theorem ov_net {l : List Tie} {n : Int} {a b : Pt} {z : Int} (ok : NetOk l n) (hp : PtsOk l n a b) (hz : 1 ≤ z ∧ z ≤ 1048576) : NetOk (l ++ moreT a b z) n :=
  net_more ok fun t ht => by
    unfold moreT at ht
    obtain ⟨s, hs, rfl⟩ := List.mem_map.1 ht
    obtain ⟨h1, h2, _⟩ := side_ok hp hs
    dsimp only
    omega
open Classical in
noncomputable def canZB (l : List Tie) (a b : Pt) (z : Int) : Bool := decide (CanZ l a b z)
theorem canZB_true {l : List Tie} {a b : Pt} {z : Int} : canZB l a b z = true ↔ CanZ l a b z := by unfold canZB; simp
theorem canZB_false {l : List Tie} {a b : Pt} {z : Int} : canZB l a b z = false ↔ ¬ CanZ l a b z := by unfold canZB; simp
theorem reach_is {l : List Tie} {N : Nat} {a b : Pt} {z : Int} {F : Nat → Int} {r : Bool} (h : (r = true ∧ ∃ M B, F = halfN N M ∧ Settled (l ++ moreT a b z) N 0 M B) ∨ (r = false ∧ ¬ CanZ l a b z)) : r = canZB l a b z := by
  rcases h with ⟨rfl, M, B, _, hs⟩ | ⟨rfl, h⟩
  · exact (canZB_true.2 ⟨M, hs.keeps⟩).symm
  · exact (canZB_false.2 h).symm
set_option maxRecDepth 100000 in
set_option maxHeartbeats 4000000 in
theorem most1_c (l : List Tie) (A : Option Addr) (cap N : Nat) (a b : Pt) (y : Int) (g : Nat) (w : World) (hg : w.heap[g]? = some (.cells (ovA N (.slice A l.length cap) a b) 173)) (hu : TiesAt w w.heap.size (.slice A l.length cap) l) (ok : NetOk l N) (hn0 : 0 < N) (hre : Reaches l N 0)
    (hp : PtsOk l N a b) (hz : 0 ≤ y ∧ y < 1048576) (hlen : l.length ≤ 900) :
    Calls Tryz.prog 159 #[.int .i64 y, .pointer (some ⟨g, 0, none⟩)] w fun e w' => e = .returned (.bool (!canZB l a b (y + 1))) ∧ Below w.heap.size w w' := by
  have HR := Lib.hid (reaches_c l (.slice A l.length cap) N a b (y + 1) w hu (ov_net ok hp (by omega)) hn0 (reaches_more hre) (by omega) hlen)
  unfold ovV at HR
  clear hu ok hre hp hlen
  have zg := size_of_block hg
  go_enter Tryz.func159, Tryz.ntmps159
  go_wp2_with (first | (refine wpList_load_row rfl 173 _ rfl g rfl 173 (ovA N (.slice A l.length cap) a b) (0, 0) _ hg Tryz.underlying173 rfl (by kernel_rfl) ?_))
  refine HR.out.mono ?_
  rintro e W4 ⟨F, r, rfl, hres, hF⟩
  have HRI := Lib.hid (reach_is hres)
  clear hres HR
  obtain ⟨W5, hW5⟩ : ∃ W5, W5 = (W4.alloc (.cells #[.int .i64 0, .int .i64 0, .int .i64 0, .int .i64 0, .int .i64 0, .int .i64 0, .int .i64 0, .int .i64 0, .int .i64 0, .int .i64 0, .int .i64 0, .int .i64 0, .int .i64 0, .int .i64 0, .int .i64 0, .int .i64 0, .int .i64 0, .int .i64 0, .int .i64 0, .int .i64 0, .int .i64 0, .int .i64 0, .int .i64 0, .int .i64 0, .int .i64 0, .int .i64 0, .int .i64 0, .int .i64 0, .int .i64 0, .int .i64 0, .int .i64 0, .int .i64 0, .int .i64 0, .int .i64 0, .int .i64 0, .int .i64 0, .int .i64 0, .int .i64 0, .int .i64 0, .int .i64 0, .int .i64 0] 124)).setRow W4.heap.size (hgA F) := ⟨_, rfl⟩
  have b5 : Below W4.heap.size W4 W5 := by rw [hW5]; exact below_setRow (below_alloc _ _) (Nat.le_refl _) _
  have HB := Lib.hid (below_then hF b5)
  have HW5 := Lib.hid hW5
  clear hF b5 hW5
  go_wp2_with (first | (refine wpList_store_rowTo rfl 124 _ _ rfl rfl W4.heap.size (hgA F) rfl rfl 124 _ (heap_alloc_new W4 _) (by kernel_rfl) (by rw [hgA_size]; kernel_rfl) (by rw [hgA_size]; kernel_rfl) ?_; rw [← HW5.out]))
  go_ret
  exact ⟨ret_bool (by rw [HRI.out]), HB.out⟩
set_option maxRecDepth 100000 in
set_option maxHeartbeats 4000000 in
theorem search_c (g : Nat) (q : Int → Bool) (n : Nat) (w : World) (hn : n ≤ 1048576) (hq : ∀ (y : Nat) W, y < n → Below w.heap.size w W → Calls Tryz.prog 159 #[.int .i64 y, .pointer (some ⟨g, 0, none⟩)] W fun e W' => e = .returned (.bool (q y)) ∧ Below W.heap.size W W') :
    Calls Tryz.prog 158 #[.int .i64 n, .func (.func 159) #[] #[.pointer (some ⟨g, 0, none⟩)]] w fun e w' => (∃ r : Nat, e = .returned (.int .i64 r) ∧ r ≤ n ∧ (r = 0 ∨ q ((r : Int) - 1) = false) ∧ (r = n ∨ q r = true)) ∧ Below w.heap.size w w' := by
  have HQ := Lib.hid hq
  clear hq
  go_enter Tryz.func158, Tryz.ntmps158
  go_wp2_with fail
  go_loopw [5, 6] (fun s5 s6 wr => ∃ i j : Nat, s5 = .int .i64 i ∧ s6 = .int .i64 j ∧ i ≤ j ∧ j ≤ n ∧ Hid (i = 0 ∨ q ((i : Int) - 1) = false) ∧ Hid (j = n ∨ q j = true) ∧ Below w.heap.size w wr) (fun s5 s6 _ => (intOf s6).toNat - (intOf s5).toNat)
  case atStart => exact ⟨0, n, rfl, rfl, Nat.zero_le _, Nat.le_refl _, Lib.hid (.inl rfl), Lib.hid (.inl rfl), Below.refl _ _⟩
  case round =>
    obtain ⟨i, j, rfl, rfl, hij, hj, hi0, hj0, hb⟩ := hrel
    by_cases hlt : i < j
    · go_wp2_with fail
      obtain ⟨h, hh⟩ : ∃ h : Nat, ((i : Int) + j) / 2 = h := ⟨(((i : Int) + j) / 2).toNat, by omega⟩
      have h1 : i ≤ h := by omega
      have h2 : h < j := by omega
      rw [hh]
      have HH := Lib.hid hh
      clear hh
      refine (HQ.out h wr (by omega) hb).mono ?_
      rintro e W2 ⟨rfl, hF⟩
      replace hb := below_then hb hF
      clear hF
      rcases hqh : q h with _ | _
      · have H1 := Lib.hid (show h + 1 = 0 ∨ q (((h + 1 : Nat) : Int) - 1) = false from .inr (by rw [show (((h + 1 : Nat) : Int) - 1) = h by omega]; exact hqh))
        clear hqh
        go_wp2_with fail
        go_roundw
        case rel => exact ⟨h + 1, j, by go_num, rfl, by omega, hj, H1, hj0, hb⟩
        case measure => simp [intOf]; omega
      · have H1 := Lib.hid (show h = n ∨ q h = true from .inr hqh)
        clear hqh
        go_wp2_with fail
        go_roundw
        case rel => exact ⟨i, h, rfl, rfl, h1, by omega, hi0, H1, hb⟩
        case measure => simp [intOf]; omega
    · obtain rfl : i = j := by omega
      go_wp2_with fail
      go_ret
      exact ⟨⟨i, rfl, hj, hi0.out, hj0.out⟩, hb⟩
set_option maxRecDepth 100000 in
set_option maxHeartbeats 4000000 in
theorem most_c (l : List Tie) (A : Option Addr) (cap N : Nat) (a b : Pt) (w : World) (hu : TiesAt w w.heap.size (.slice A l.length cap) l) (ok : NetOk l N) (hn0 : 0 < N) (hre : Reaches l N 0) (hp : PtsOk l N a b) (hlen : l.length ≤ 900) :
    Calls Tryz.prog 117 #[ovV N (.slice A l.length cap) a b] w fun e w' => e = .returned (.int .i64 (mostZ l a b)) ∧ Below w.heap.size w w' := by
  have q0 := heap_alloc_new w (.cells (ovA N (.slice A l.length cap) a b) 173)
  have qb := below_alloc w (.cells (ovA N (.slice A l.length cap) a b) 173)
  have hq := fun (W0 : World) (h0 : W0.heap[w.heap.size]? = some (.cells (ovA N (.slice A l.length cap) a b) 173)) (hb : Below w.heap.size w W0) => search_c w.heap.size (fun y => !canZB l a b (y + 1)) 1048576 W0 (by omega) fun y W hy hb2 => by
    have hb3 := below_then hb hb2
    exact most1_c l A cap N a b y w.heap.size W ((hb2.block _ (size_of_block h0)).trans h0) (hu.later hb3) ok hn0 hre hp (by omega) hlen
  have HQ := Lib.hid hq
  clear hq hu ok hre hp hlen
  unfold ovV
  go_enter Tryz.func117, Tryz.ntmps117
  go_wp2_with fail
  have hs := HQ.out _ q0 qb
  rw [show ((1048576 : Nat) : Int) = 1048576 from rfl] at hs
  refine hs.mono ?_
  rintro e W2 ⟨⟨r, rfl, h1, h2, h3⟩, hF⟩
  have hm : mostZ l a b = r := mostZ_of ⟨by omega, by
    rcases h2 with h2 | h2
    · exact .inl (by omega)
    · rw [show ((r : Int) - 1 + 1) = r by omega, Bool.not_eq_false'] at h2
      exact .inr (canZB_true.1 h2), by
    rcases h3 with h3 | h3
    · exact .inl (by omega)
    · rw [Bool.not_eq_true'] at h3
      exact .inr (canZB_false.1 h3)⟩
  have HM := Lib.hid hm
  replace qb := below_then qb hF
  clear h2 h3 hm hF hs q0 HQ
  go_wp2_with fail
  go_ret
  exact ⟨by rw [HM.out]; rfl, qb⟩
end Go.Proofs.YtnedcclmfokdnaaGreat
namespace Go.Proofs.YtnedcclmfokdnaaGreat
open Go Go.RowKit Go.Shelf
attribute [local go_sem] Oper.semAt_some Rel RelAt RelUpon
theorem own_ge {w : World} {base n sz : Nat} {e : TypeId} {v : Value} {xs : List Value} (h : w.ownsRow base e sz v n xs) : ∀ g, g < base → v.ownBlock ≠ some g := fun g hg hk => by
  rcases h.2 with ⟨rfl, _⟩ | ⟨gd, cap, cur, rfl, h2, _⟩
  · simp [Value.ownBlock] at hk
  · simp [Value.ownBlock] at hk; omega
set_option maxRecDepth 100000 in
set_option maxHeartbeats 4000000 in
theorem netOf_d (k : Kl) (v : Value) (w : World) (hv : Kiln w v k) (hR : Right k) :
    Calls Tryz.prog 87 #[v] w fun e w' => ∃ u, e = .returned (.agg #[.int .i64 (marksN k), u]) ∧ (TiesAt w' w'.heap.size u (tiesL k) ∧ ∀ g, g < w.heap.size → u.ownBlock ≠ some g) ∧ Below w.heap.size w w' := by
  obtain ⟨A1, c1, A2, c2, A3, c3, rfl⟩ := kilnForm hv
  obtain ⟨q0, q1, -, qb⟩ := two_new' w (.cells #[.int .i64 k.room, .int .i64 k.per, .slice A1 k.ls.length c1, .slice A2 k.ds.length c2, .slice A3 k.ws.length c3] 26) (.cells #[.int .i64 0, .slice none 0 0] 145)
  have hk := hv.later qb
  have HL := Lib.hid (tiesL_len hR.small)
  have hl := hR.ls
  have hd := hR.ds
  have HR := Lib.hid hR
  clear hR hv
  go_enter Tryz.func87, Tryz.ntmps87
  go_wp2_with fail
  generalize (w.alloc _).alloc _ = W1 at q0 q1 qb hk ⊢
  refine wp_region_looseM [] [0, 1, 2, 3, 4, 5, 6, 7, 8] (.one 9 (.one 10 .done)) [] [] [11, 12] [] [] (by kernel_rfl) (by kernel_rfl) (by intro c a d v w h; cases d <;> exact h) (by intro c a d v w h; cases d <;> exact h) rfl (fun r i h => by simp at h) ?_
  simp only [pick, List.filterMap_cons, List.filterMap_nil, List.getElem?_toArray, List.getElem?_cons_succ, List.getElem?_cons_zero]
  intro u1 hu1
  replace q1 := (hu1.block _ (size_of_block q1)).trans q1
  replace q0 := (hu1.block _ (size_of_block q0)).trans q0
  replace hk := hk.later hu1
  replace qb := below_then qb hu1
  have cq00 := Joins.cell_of_block q0 0
  have cq01 := Joins.cell_of_block q0 1
  have cq02 := Joins.cell_of_block q0 2
  have cq03 := Joins.cell_of_block q0 3
  have cq04 := Joins.cell_of_block q0 4
  have zq0 := size_of_block q0
  have hcg : ∀ (g : Gr u1) b o, b < u1.heap.size → g.val.cell? ⟨b, o, none⟩ = u1.cell? ⟨b, o, none⟩ := fun g b o h => (bcell g.b).1 b o h
  iterate 9 (refine wpRel_step (fun K hK => ?_); go_simp; refine hK _ ?_; clear hK K)
  refine wpRel_nil fun V1_0 hb1 => ?_
  clear hcg cq00 cq01 cq02 cq03 cq04 zq0
  replace q0 := (hb1.block _ (size_of_block q0)).trans q0
  replace q1 := (hb1.block _ (size_of_block q1)).trans q1
  replace hk := hk.later hb1
  replace qb := below_then qb hb1
  clear hb1 hu1
  refine wpTr_step rfl rfl fun K hK => ?_
  go_simp
  refine (ties_c k _ V1_0 hk HR.out).mono ?_
  rintro e X ⟨⟨gf, lb, rfl, hG⟩, hx⟩
  refine hK _ _ hx fun V1_1 hu => ?_
  clear hK K
  have hxu := below_then hx hu
  replace q0 := (hxu.block _ (size_of_block q0)).trans q0
  replace q1 := (hxu.block _ (size_of_block q1)).trans q1
  replace hk := hk.later hxu
  replace qb := below_then qb hxu
  have hG2 := (hG.later hu).more hu.size
  clear hx hu hxu hG
  refine wpTr_step rfl rfl fun K hK => ?_
  go_simp
  have BBS := qb.size
  refine (collect_c _ _ 0 (tiesL k) V1_1 hG2 (Nat.le_refl _) (by have := HL.out; omega)).mono ?_
  rintro e X ⟨u, rfl, hO, hx⟩
  refine hK _ _ hx fun V1_2 hu => ?_
  clear hK K
  replace hO := own_below hO hu
  have hxu := below_then hx hu
  replace q0 := (hxu.block _ (size_of_block q0)).trans q0
  replace q1 := (hxu.block _ (size_of_block q1)).trans q1
  replace hk := hk.later hxu
  replace qb := below_then qb hxu
  clear hx hu hxu
  show wpPure _ _ _ _
  intro ks hks _ _
  obtain rfl : ks = [] := List.length_eq_zero_iff.1 hks
  clear hks
  show wpList _ _ _ _ _ _
  simp only [deco]
  obtain ⟨A, cap, rfl⟩ := own_form hO
  have HGE := Lib.hid (fun g (hg : g < w.heap.size) => own_ge hO g (Nat.lt_of_lt_of_le hg BBS))
  have hne := own_ne_block hO q1 (by decide)
  have hO2 := own_setCell (own_setCell hO 0 (.int .i64 (1 + k.ls.length + k.ds.length)) hne) 1 (.slice A (tiesL k).length cap) hne
  have HT := Lib.hid (Sl.of_own tC_len hO2 (by have := HL.out; omega))
  have HPP := Lib.hid (put2 (.int .i64 (1 + k.ls.length + k.ds.length)) (.slice A (tiesL k).length cap) q1)
  have e0 := Joins.cell_of_block q1 0
  have e1 := Joins.cell_of_block q1 1
  have f0 := Joins.unfrozen_of_block q1 0
  have f1 := Joins.unfrozen_of_block q1 1
  have z1 := Lib.hid (size_of_block q1)
  clear hO hO2 hne
  go_wp2_with fail
  refine bodyPost_ret (v := .agg #[.int .i64 (1 + k.ls.length + k.ds.length), .slice A (tiesL k).length cap]) ?_ rfl ⟨_, rfl, ⟨HT.out, HGE.out⟩, below_set (below_set qb (by omega)) (by omega)⟩
  simp [results, Tryz.results87, go_sem, HPP.out.1, HPP.out.2]
theorem agreesK_c (k : Kl) (u : Value) (w : World) (hR : Right k) (hT : TiesAt w w.heap.size u (tiesL k)) :
    Calls Tryz.prog 128 #[.agg #[.int .i64 (marksN k), u]] w fun e w' => e = .returned (.bool (canB (tiesL k))) ∧ Below w.heap.size w w' := by
  have hmn := mN_eq k
  have hok : NetOk (tiesL k) (mN k : Nat) := by rw [← hmn]; exact net_ok hR
  have hre : Reaches (tiesL k) (mN k : Nat) 0 := by rw [← hmn]; exact net_reaches k (by omega) (by rw [hmn]; unfold mN; omega)
  have h := agrees_c (tiesL k) u (mN k) w hT hok hre (by have := tiesL_len hR.small; omega)
  rw [← hmn] at h
  refine h.mono ?_
  rintro e w' ⟨b, rfl, h1, _, hb⟩
  refine ⟨?_, hb⟩
  have : b = canB (tiesL k) := by rw [Bool.eq_iff_iff, canB_true]; exact h1
  rw [this]
end Go.Proofs.YtnedcclmfokdnaaGreat
namespace Go.Proofs.YtnedcclmfokdnaaGreat
open Go Go.RowKit Go.Shelf
attribute [local go_sem] Oper.semAt_some Rel RelAt RelUpon
theorem took_zero {k : Kl} {d l : Int} : (tookE k d l).2 = 0 ↔ checkI k = 0 ∧ ¬ (place k.ls l < 0 ∨ place k.ds d < 0) ∧ canB (tiesL k) = true := by
  unfold tookE
  by_cases h0 : checkI k = 0
  · rw [if_neg (by simp [h0])]
    by_cases h1 : place k.ls l < 0 ∨ place k.ds d < 0
    · rw [if_pos h1]; simp [h1]
    · rw [if_neg h1]
      by_cases h2 : canB (tiesL k) = true
      · rw [if_pos h2]; simp [h0, h1, h2]
      · rw [if_neg h2]; simp [h2]
  · rw [if_pos h0]; simp [h0]
set_option maxRecDepth 100000 in
set_option maxHeartbeats 4000000 in
theorem taking_c (k : Kl) (v : Value) (d ld : Int) (w : World) (hv : Kiln w v k) :
    Calls Tryz.prog 115 #[v, .int .i64 d, .int .i64 ld] w fun e w' => ∃ o, e = .returned (.tuple #[o, .int .i64 (tookE k d ld).2]) ∧ (((tookE k d ld).2 = 0 → ∃ A cap, o = ovV (marksN k) (.slice A (tiesL k).length cap) (loadP (place k.ls ld)) (drawP k (place k.ds d)) ∧ TiesAt w' w'.heap.size (.slice A (tiesL k).length cap) (tiesL k)) ∧ ((tookE k d ld).2 ≠ 0 → o = .agg #[.int .i64 0, .slice none 0 0, .int .i64 0, .int .i64 0, .int .i64 0, .int .i64 0, .int .i64 0, .int .i64 0, .int .i64 0, .int .i64 0])) ∧ Below w.heap.size w w' := by
  obtain ⟨A1, c1, A2, c2, A3, c3, rfl⟩ := kilnForm hv
  obtain ⟨q0, q1, -, qb⟩ := two_new' w (.cells #[.int .i64 k.room, .int .i64 k.per, .slice A1 k.ls.length c1, .slice A2 k.ds.length c2, .slice A3 k.ws.length c3] 26) (.cells #[.int .i64 0, .slice none 0 0, .int .i64 0, .int .i64 0, .int .i64 0, .int .i64 0, .int .i64 0, .int .i64 0, .int .i64 0, .int .i64 0] 173)
  have HKB := Lib.hid hv.toB
  have hk := hv.later qb
  clear hv
  go_enter Tryz.func115, Tryz.ntmps115
  have y0 := Joins.cell_of_block q0 0
  have y1 := Joins.cell_of_block q0 1
  have y2 := Joins.cell_of_block q0 2
  have y3 := Joins.cell_of_block q0 3
  have y4 := Joins.cell_of_block q0 4
  go_wp2_with fail
  generalize (w.alloc _).alloc _ = W1 at q0 q1 qb hk ⊢
  refine (check_c k _ W1 hk).mono ?_
  rintro e W2 ⟨rfl, hF⟩
  replace q0 := (hF.block _ (size_of_block q0)).trans q0
  replace q1 := (hF.block _ (size_of_block q1)).trans q1
  replace qb := below_then qb hF
  replace hk := hk.later hF
  clear hF y0 y1 y2 y3 y4
  by_cases h0 : checkI k = 0
  · have d0 : (checkI k != 0) = false := by rw [h0]; rfl
    have HR := Lib.hid (right_of_check h0)
    have HE := Lib.hid (show (tookE k d ld).2 = if place k.ls ld < 0 ∨ place k.ds d < 0 then 5 else if canB (tiesL k) = true then 0 else 9 by unfold tookE; rw [if_neg (by simp [h0])]; split <;> (try rfl); split <;> rfl)
    have n1 := HR.out.ls
    have n2 := HR.out.ds
    have HNL := Lib.hid HR.out.noL
    have HND := Lib.hid HR.out.noD
    have hln := fun W (hk : Kiln W (.agg #[.int .i64 k.room, .int .i64 k.per, .slice A1 k.ls.length c1, .slice A2 k.ds.length c2, .slice A3 k.ws.length c3]) k) => (show Recs W W.heap.size (.slice A1 k.ls.length c1) k.ls by
      obtain ⟨al, ad, aw, e9, hl, _, _⟩ := hk
      obtain ⟨rfl, rfl, rfl⟩ : .slice A1 k.ls.length c1 = al ∧ .slice A2 k.ds.length c2 = ad ∧ .slice A3 k.ws.length c3 = aw := by simpa using e9
      exact hl)
    have HLN := Lib.hid hln
    have hdn := fun W (hk : Kiln W (.agg #[.int .i64 k.room, .int .i64 k.per, .slice A1 k.ls.length c1, .slice A2 k.ds.length c2, .slice A3 k.ws.length c3]) k) => (show Recs W W.heap.size (.slice A2 k.ds.length c2) k.ds by
      obtain ⟨al, ad, aw, e9, _, hd, _⟩ := hk
      obtain ⟨rfl, rfl, rfl⟩ : .slice A1 k.ls.length c1 = al ∧ .slice A2 k.ds.length c2 = ad ∧ .slice A3 k.ws.length c3 = aw := by simpa using e9
      exact hd)
    have HDN := Lib.hid hdn
    clear h0 hln hdn
    have y0 := Joins.cell_of_block q0 0
    have y1 := Joins.cell_of_block q0 1
    have y2 := Joins.cell_of_block q0 2
    have y3 := Joins.cell_of_block q0 3
    have y4 := Joins.cell_of_block q0 4
    go_wp2_with fail
    refine (loadsV _ _ _ _ _ _ _ W2).mono ?_
    rintro e W3 ⟨rfl, hF⟩
    replace q0 := (hF.block _ (size_of_block q0)).trans q0
    replace q1 := (hF.block _ (size_of_block q1)).trans q1
    replace qb := below_then qb hF
    replace hk := hk.later hF
    clear hF y0 y1 y2 y3 y4
    have hpc := Lib.hid (partsL_c k.ls (.slice A1 k.ls.length c1) 0 W3 (HLN.out W3 hk) (by omega) HNL.out)
    go_wp2_with fail
    refine hpc.out.mono ?_
    rintro e W4 ⟨r, rfl, hm, hF⟩
    replace q0 := (hF.block _ (size_of_block q0)).trans q0
    replace q1 := (hF.block _ (size_of_block q1)).trans q1
    replace qb := below_then qb hF
    replace hk := hk.later hF
    have HM := Lib.hid hm
    have HLK := Lib.hid (lookup_place k.ls 0 ld)
    clear hF hpc hm
    have BQ := size_of_block q1
    rcases place_cases k.ls ld with ⟨e1, _⟩ | ⟨i, x, e1, _, _, hi, _⟩
    · rw [e1, if_pos (by omega)] at HLK
      have HEE := Lib.hid (show (tookE k d ld).2 = 5 by rw [HE.out, if_pos (.inl (by rw [e1]; omega))])
      clear e1
      have hz0 := heap_alloc_new W4 (.cells #[.int .i64 0, .int .i64 0] 160)
      obtain ⟨W5, hW5⟩ : ∃ W5, W5 = (W4.alloc (.cells #[.int .i64 0, .int .i64 0] 160)).setRow W4.heap.size #[.int .i64 0, .int .i64 0] := ⟨_, rfl⟩
      have pb : Below W4.heap.size W4 W5 := by rw [hW5]; exact below_setRow (below_alloc _ _) (Nat.le_refl _) _
      have p0 : W5.heap[W4.heap.size]? = some (.cells #[.int .i64 0, .int .i64 0] 160) := by rw [hW5]; exact setRow_heap _ _ _ _ _ _ hz0
      have HW5 := Lib.hid hW5
      replace q0 := (pb.block _ (size_of_block q0)).trans q0
      replace q1 := (pb.block _ (size_of_block q1)).trans q1
      replace qb := below_then qb pb
      replace hk := hk.later pb
      clear pb hW5
      have y0 := Joins.cell_of_block q0 0
      have y1 := Joins.cell_of_block q0 1
      have y2 := Joins.cell_of_block q0 2
      have y3 := Joins.cell_of_block q0 3
      have y4 := Joins.cell_of_block q0 4
      have zq := size_of_block q0
      go_wp2_with (first | (at_lookup; refine wpList_lookup_i rfl (.tmp 23) (.tmp 24) 168 true rfl Tryz.underlying168 Tryz.underlying3 (.agg #[.int .i64 0, .int .i64 0]) Tryz.zeroPart rfl ld rfl HM.out (.tuple #[.agg #[.int .i64 0, .int .i64 0], .bool false]) (by rw [HLK.out]; rfl) ?_) | (refine wpList_store_rowTo rfl 160 _ _ rfl rfl W4.heap.size #[.int .i64 0, .int .i64 0] rfl rfl 160 _ hz0 (by kernel_rfl) rfl (by kernel_rfl) ?_; rw [← HW5.out]))
      refine (drawsV _ _ _ _ _ _ _ _ _ W5).mono ?_
      rintro e W6 ⟨rfl, hF⟩
      replace q0 := (hF.block _ (size_of_block q0)).trans q0
      replace q1 := (hF.block _ (size_of_block q1)).trans q1
      replace p0 := (hF.block _ (size_of_block p0)).trans p0
      replace qb := below_then qb hF
      replace hk := hk.later hF
      clear hF y0 y1 y2 y3 y4 zq hz0 HW5 HM HLK
      have hpc := Lib.hid (partsD_c k.ds (.slice A2 k.ds.length c2) k.ls.length W6 (HDN.out W6 hk) (by omega) HND.out)
      go_wp2_with fail
      refine hpc.out.mono ?_
      rintro e W7 ⟨r2, rfl, hm, hF⟩
      replace q0 := (hF.block _ (size_of_block q0)).trans q0
      replace q1 := (hF.block _ (size_of_block q1)).trans q1
      replace p0 := (hF.block _ (size_of_block p0)).trans p0
      replace qb := below_then qb hF
      replace hk := hk.later hF
      have HM := Lib.hid hm
      have HLK := Lib.hid (lookup_place k.ds k.ls.length d)
      clear hF hpc hm
      have BQ2 := size_of_block p0
      rcases place_cases k.ds d with ⟨e2, _⟩ | ⟨j, x, e2, _, _, hj, _⟩
      · rw [e2, if_pos (by omega)] at HLK
        clear e2
        have hz0 := heap_alloc_new W7 (.cells #[.int .i64 0, .int .i64 0] 160)
        obtain ⟨W8, hW8⟩ : ∃ W8, W8 = (W7.alloc (.cells #[.int .i64 0, .int .i64 0] 160)).setRow W7.heap.size #[.int .i64 0, .int .i64 0] := ⟨_, rfl⟩
        have pb : Below W7.heap.size W7 W8 := by rw [hW8]; exact below_setRow (below_alloc _ _) (Nat.le_refl _) _
        have p1 : W8.heap[W7.heap.size]? = some (.cells #[.int .i64 0, .int .i64 0] 160) := by rw [hW8]; exact setRow_heap _ _ _ _ _ _ hz0
        have HW5 := Lib.hid hW8
        replace q0 := (pb.block _ (size_of_block q0)).trans q0
        replace q1 := (pb.block _ (size_of_block q1)).trans q1
        replace p0 := (pb.block _ (size_of_block p0)).trans p0
        replace qb := below_then qb pb
        replace hk := hk.later pb
        clear pb hW8
        have HV := Lib.hid (run_loadVar_row (P := Tryz.prog) _ (w.heap.size + 1) 173 173 #[.int .i64 0, .slice none 0 0, .int .i64 0, .int .i64 0, .int .i64 0, .int .i64 0, .int .i64 0, .int .i64 0, .int .i64 0, .int .i64 0] (0, 0) _ (setRow_heap _ _ _ _ _ _ q1) Tryz.underlying173 rfl (by kernel_rfl))
        have hBF := Lib.hid (below_setRow qb (show w.heap.size ≤ w.heap.size + 1 by omega) #[.int .i64 0, .slice none 0 0, .int .i64 0, .int .i64 0, .int .i64 0, .int .i64 0, .int .i64 0, .int .i64 0, .int .i64 0, .int .i64 0])
        go_wp2_with (first | (at_lookup; refine wpList_lookup_i rfl (.tmp 31) (.tmp 32) 168 true rfl Tryz.underlying168 Tryz.underlying3 (.agg #[.int .i64 0, .int .i64 0]) Tryz.zeroPart rfl d rfl HM.out (.tuple #[.agg #[.int .i64 0, .int .i64 0], .bool false]) (by rw [HLK.out]; rfl) ?_) | (refine wpList_store_rowTo rfl 160 _ _ rfl rfl W7.heap.size #[.int .i64 0, .int .i64 0] rfl rfl 160 _ hz0 (by kernel_rfl) rfl (by kernel_rfl) ?_; rw [← HW5.out]) | (refine wpList_store_rowTo rfl 173 _ _ rfl rfl (w.heap.size + 1) #[.int .i64 0, .slice none 0 0, .int .i64 0, .int .i64 0, .int .i64 0, .int .i64 0, .int .i64 0, .int .i64 0, .int .i64 0, .int .i64 0] rfl rfl 173 _ q1 (by kernel_rfl) rfl (by kernel_rfl) ?_))
        refine bodyPost_ret (v := .tuple #[.agg #[.int .i64 0, .slice none 0 0, .int .i64 0, .int .i64 0, .int .i64 0, .int .i64 0, .int .i64 0, .int .i64 0, .int .i64 0, .int .i64 0], .int .i64 (5)]) ?_ rfl ⟨_, by rw [HEE.out], ⟨fun h0 => absurd h0 (by rw [HEE.out]; decide), fun _ => rfl⟩, hBF.out⟩
        simp [results, Tryz.results115, asAddr, HV.out]
      · rw [e2, if_neg (by omega)] at HLK
        clear e2
        have hpv2 : partV k.ls.length j = .agg #[.int .i64 (markB k.ls.length j), .int .i64 (markB k.ls.length ((j : Int) + 1))] := rfl
        rw [hpv2] at HLK
        have hz0 := heap_alloc_new W7 (.cells #[.int .i64 0, .int .i64 0] 160)
        obtain ⟨W8, hW8⟩ : ∃ W8, W8 = (W7.alloc (.cells #[.int .i64 0, .int .i64 0] 160)).setRow W7.heap.size #[.int .i64 (markB k.ls.length j), .int .i64 (markB k.ls.length ((j : Int) + 1))] := ⟨_, rfl⟩
        have pb : Below W7.heap.size W7 W8 := by rw [hW8]; exact below_setRow (below_alloc _ _) (Nat.le_refl _) _
        have p1 : W8.heap[W7.heap.size]? = some (.cells #[.int .i64 (markB k.ls.length j), .int .i64 (markB k.ls.length ((j : Int) + 1))] 160) := by rw [hW8]; exact setRow_heap _ _ _ _ _ _ hz0
        have HW5 := Lib.hid hW8
        replace q0 := (pb.block _ (size_of_block q0)).trans q0
        replace q1 := (pb.block _ (size_of_block q1)).trans q1
        replace p0 := (pb.block _ (size_of_block p0)).trans p0
        replace qb := below_then qb pb
        replace hk := hk.later pb
        clear pb hW8
        have HV := Lib.hid (run_loadVar_row (P := Tryz.prog) _ (w.heap.size + 1) 173 173 #[.int .i64 0, .slice none 0 0, .int .i64 0, .int .i64 0, .int .i64 0, .int .i64 0, .int .i64 0, .int .i64 0, .int .i64 0, .int .i64 0] (0, 0) _ (setRow_heap _ _ _ _ _ _ q1) Tryz.underlying173 rfl (by kernel_rfl))
        have hBF := Lib.hid (below_setRow qb (show w.heap.size ≤ w.heap.size + 1 by omega) #[.int .i64 0, .slice none 0 0, .int .i64 0, .int .i64 0, .int .i64 0, .int .i64 0, .int .i64 0, .int .i64 0, .int .i64 0, .int .i64 0])
        go_wp2_with (first | (at_lookup; refine wpList_lookup_i rfl (.tmp 31) (.tmp 32) 168 true rfl Tryz.underlying168 Tryz.underlying3 (.agg #[.int .i64 0, .int .i64 0]) Tryz.zeroPart rfl d rfl HM.out (.tuple #[.agg #[.int .i64 (markB k.ls.length j), .int .i64 (markB k.ls.length ((j : Int) + 1))], .bool true]) (by rw [HLK.out]; rfl) ?_) | (refine wpList_store_rowTo rfl 160 _ _ rfl rfl W7.heap.size #[.int .i64 (markB k.ls.length j), .int .i64 (markB k.ls.length ((j : Int) + 1))] rfl rfl 160 _ hz0 (by kernel_rfl) rfl (by kernel_rfl) ?_; rw [← HW5.out]) | (refine wpList_store_rowTo rfl 173 _ _ rfl rfl (w.heap.size + 1) #[.int .i64 0, .slice none 0 0, .int .i64 0, .int .i64 0, .int .i64 0, .int .i64 0, .int .i64 0, .int .i64 0, .int .i64 0, .int .i64 0] rfl rfl 173 _ q1 (by kernel_rfl) rfl (by kernel_rfl) ?_))
        refine bodyPost_ret (v := .tuple #[.agg #[.int .i64 0, .slice none 0 0, .int .i64 0, .int .i64 0, .int .i64 0, .int .i64 0, .int .i64 0, .int .i64 0, .int .i64 0, .int .i64 0], .int .i64 (5)]) ?_ rfl ⟨_, by rw [HEE.out], ⟨fun h0 => absurd h0 (by rw [HEE.out]; decide), fun _ => rfl⟩, hBF.out⟩
        simp [results, Tryz.results115, asAddr, HV.out]
    · rw [e1, if_neg (by omega)] at HLK
      have hpv : partV 0 i = .agg #[.int .i64 i, .int .i64 ((i : Int) + 1)] := by unfold partV; rw [markB_zero, markB_zero]
      rw [hpv] at HLK
      have hz0 := heap_alloc_new W4 (.cells #[.int .i64 0, .int .i64 0] 160)
      obtain ⟨W5, hW5⟩ : ∃ W5, W5 = (W4.alloc (.cells #[.int .i64 0, .int .i64 0] 160)).setRow W4.heap.size #[.int .i64 i, .int .i64 ((i : Int) + 1)] := ⟨_, rfl⟩
      have pb : Below W4.heap.size W4 W5 := by rw [hW5]; exact below_setRow (below_alloc _ _) (Nat.le_refl _) _
      have p0 : W5.heap[W4.heap.size]? = some (.cells #[.int .i64 i, .int .i64 ((i : Int) + 1)] 160) := by rw [hW5]; exact setRow_heap _ _ _ _ _ _ hz0
      have HW5 := Lib.hid hW5
      replace q0 := (pb.block _ (size_of_block q0)).trans q0
      replace q1 := (pb.block _ (size_of_block q1)).trans q1
      replace qb := below_then qb pb
      replace hk := hk.later pb
      clear pb hW5
      have y0 := Joins.cell_of_block q0 0
      have y1 := Joins.cell_of_block q0 1
      have y2 := Joins.cell_of_block q0 2
      have y3 := Joins.cell_of_block q0 3
      have y4 := Joins.cell_of_block q0 4
      have zq := size_of_block q0
      go_wp2_with (first | (at_lookup; refine wpList_lookup_i rfl (.tmp 23) (.tmp 24) 168 true rfl Tryz.underlying168 Tryz.underlying3 (.agg #[.int .i64 0, .int .i64 0]) Tryz.zeroPart rfl ld rfl HM.out (.tuple #[.agg #[.int .i64 i, .int .i64 ((i : Int) + 1)], .bool true]) (by rw [HLK.out]; rfl) ?_) | (refine wpList_store_rowTo rfl 160 _ _ rfl rfl W4.heap.size #[.int .i64 i, .int .i64 ((i : Int) + 1)] rfl rfl 160 _ hz0 (by kernel_rfl) rfl (by kernel_rfl) ?_; rw [← HW5.out]))
      refine (drawsV _ _ _ _ _ _ _ _ _ W5).mono ?_
      rintro e W6 ⟨rfl, hF⟩
      replace q0 := (hF.block _ (size_of_block q0)).trans q0
      replace q1 := (hF.block _ (size_of_block q1)).trans q1
      replace p0 := (hF.block _ (size_of_block p0)).trans p0
      replace qb := below_then qb hF
      replace hk := hk.later hF
      clear hF y0 y1 y2 y3 y4 zq hz0 HW5 HM HLK
      have hpc := Lib.hid (partsD_c k.ds (.slice A2 k.ds.length c2) k.ls.length W6 (HDN.out W6 hk) (by omega) HND.out)
      go_wp2_with fail
      refine hpc.out.mono ?_
      rintro e W7 ⟨r2, rfl, hm, hF⟩
      replace q0 := (hF.block _ (size_of_block q0)).trans q0
      replace q1 := (hF.block _ (size_of_block q1)).trans q1
      replace p0 := (hF.block _ (size_of_block p0)).trans p0
      replace qb := below_then qb hF
      replace hk := hk.later hF
      have HM := Lib.hid hm
      have HLK := Lib.hid (lookup_place k.ds k.ls.length d)
      clear hF hpc hm
      have BQ2 := size_of_block p0
      rcases place_cases k.ds d with ⟨e2, _⟩ | ⟨j, x, e2, _, _, hj, _⟩
      · have HEE := Lib.hid (show (tookE k d ld).2 = 5 by rw [HE.out, if_pos (.inr (by rw [e2]; omega))])
        rw [e2, if_pos (by omega)] at HLK
        clear e1 e2
        have hz0 := heap_alloc_new W7 (.cells #[.int .i64 0, .int .i64 0] 160)
        obtain ⟨W8, hW8⟩ : ∃ W8, W8 = (W7.alloc (.cells #[.int .i64 0, .int .i64 0] 160)).setRow W7.heap.size #[.int .i64 0, .int .i64 0] := ⟨_, rfl⟩
        have pb : Below W7.heap.size W7 W8 := by rw [hW8]; exact below_setRow (below_alloc _ _) (Nat.le_refl _) _
        have p1 : W8.heap[W7.heap.size]? = some (.cells #[.int .i64 0, .int .i64 0] 160) := by rw [hW8]; exact setRow_heap _ _ _ _ _ _ hz0
        have HW5 := Lib.hid hW8
        replace q0 := (pb.block _ (size_of_block q0)).trans q0
        replace q1 := (pb.block _ (size_of_block q1)).trans q1
        replace p0 := (pb.block _ (size_of_block p0)).trans p0
        replace qb := below_then qb pb
        replace hk := hk.later pb
        clear pb hW8
        have HV := Lib.hid (run_loadVar_row (P := Tryz.prog) _ (w.heap.size + 1) 173 173 #[.int .i64 0, .slice none 0 0, .int .i64 0, .int .i64 0, .int .i64 0, .int .i64 0, .int .i64 0, .int .i64 0, .int .i64 0, .int .i64 0] (0, 0) _ (setRow_heap _ _ _ _ _ _ q1) Tryz.underlying173 rfl (by kernel_rfl))
        have hBF := Lib.hid (below_setRow qb (show w.heap.size ≤ w.heap.size + 1 by omega) #[.int .i64 0, .slice none 0 0, .int .i64 0, .int .i64 0, .int .i64 0, .int .i64 0, .int .i64 0, .int .i64 0, .int .i64 0, .int .i64 0])
        go_wp2_with (first | (at_lookup; refine wpList_lookup_i rfl (.tmp 31) (.tmp 32) 168 true rfl Tryz.underlying168 Tryz.underlying3 (.agg #[.int .i64 0, .int .i64 0]) Tryz.zeroPart rfl d rfl HM.out (.tuple #[.agg #[.int .i64 0, .int .i64 0], .bool false]) (by rw [HLK.out]; rfl) ?_) | (refine wpList_store_rowTo rfl 160 _ _ rfl rfl W7.heap.size #[.int .i64 0, .int .i64 0] rfl rfl 160 _ hz0 (by kernel_rfl) rfl (by kernel_rfl) ?_; rw [← HW5.out]) | (refine wpList_store_rowTo rfl 173 _ _ rfl rfl (w.heap.size + 1) #[.int .i64 0, .slice none 0 0, .int .i64 0, .int .i64 0, .int .i64 0, .int .i64 0, .int .i64 0, .int .i64 0, .int .i64 0, .int .i64 0] rfl rfl 173 _ q1 (by kernel_rfl) rfl (by kernel_rfl) ?_))
        refine bodyPost_ret (v := .tuple #[.agg #[.int .i64 0, .slice none 0 0, .int .i64 0, .int .i64 0, .int .i64 0, .int .i64 0, .int .i64 0, .int .i64 0, .int .i64 0, .int .i64 0], .int .i64 (5)]) ?_ rfl ⟨_, by rw [HEE.out], ⟨fun h0 => absurd h0 (by rw [HEE.out]; decide), fun _ => rfl⟩, hBF.out⟩
        simp [results, Tryz.results115, asAddr, HV.out]
      · rw [e2, if_neg (by omega)] at HLK
        have hpv2 : partV k.ls.length j = .agg #[.int .i64 (markB k.ls.length j), .int .i64 (markB k.ls.length ((j : Int) + 1))] := rfl
        rw [hpv2] at HLK
        have hz0 := heap_alloc_new W7 (.cells #[.int .i64 0, .int .i64 0] 160)
        obtain ⟨W8, hW8⟩ : ∃ W8, W8 = (W7.alloc (.cells #[.int .i64 0, .int .i64 0] 160)).setRow W7.heap.size #[.int .i64 (markB k.ls.length j), .int .i64 (markB k.ls.length ((j : Int) + 1))] := ⟨_, rfl⟩
        have pb : Below W7.heap.size W7 W8 := by rw [hW8]; exact below_setRow (below_alloc _ _) (Nat.le_refl _) _
        have p1 : W8.heap[W7.heap.size]? = some (.cells #[.int .i64 (markB k.ls.length j), .int .i64 (markB k.ls.length ((j : Int) + 1))] 160) := by rw [hW8]; exact setRow_heap _ _ _ _ _ _ hz0
        have HW5 := Lib.hid hW8
        replace q0 := (pb.block _ (size_of_block q0)).trans q0
        replace q1 := (pb.block _ (size_of_block q1)).trans q1
        replace p0 := (pb.block _ (size_of_block p0)).trans p0
        replace qb := below_then qb pb
        replace hk := hk.later pb
        clear pb hW8
        have zp0 := size_of_block p0
        have zp1 := size_of_block p1
        have zq0 := size_of_block q0
        have zq1 := size_of_block q1
        have y0 := Joins.cell_of_block q0 0
        have y1 := Joins.cell_of_block q0 1
        have y2 := Joins.cell_of_block q0 2
        have y3 := Joins.cell_of_block q0 3
        have y4 := Joins.cell_of_block q0 4
        go_wp2_with (first | (at_lookup; refine wpList_lookup_i rfl (.tmp 31) (.tmp 32) 168 true rfl Tryz.underlying168 Tryz.underlying3 (.agg #[.int .i64 0, .int .i64 0]) Tryz.zeroPart rfl d rfl HM.out (.tuple #[.agg #[.int .i64 (markB k.ls.length j), .int .i64 (markB k.ls.length ((j : Int) + 1))], .bool true]) (by rw [HLK.out]; rfl) ?_) | (refine wpList_store_rowTo rfl 160 _ _ rfl rfl W7.heap.size #[.int .i64 (markB k.ls.length j), .int .i64 (markB k.ls.length ((j : Int) + 1))] rfl rfl 160 _ hz0 (by kernel_rfl) rfl (by kernel_rfl) ?_; rw [← HW5.out]))
        clear zp0 zp1 zq0 zq1 y0 y1 y2 y3 y4 hz0 HW5 HM HLK
        have hws := size_of_block q1
        refine (netOf_d k _ W8 hk HR.out).mono ?_
        rintro e W9 ⟨u, rfl, ⟨hT, hge⟩, hF⟩
        obtain ⟨A, cap, rfl⟩ := Sl.form1 hT
        have hna := hge (w.heap.size + 1) hws
        replace q0 := (hF.block _ (size_of_block q0)).trans q0
        replace q1 := (hF.block _ (size_of_block q1)).trans q1
        replace p0 := (hF.block _ (size_of_block p0)).trans p0
        replace p1 := (hF.block _ (size_of_block p1)).trans p1
        replace qb := below_then qb hF
        clear hF hge q0 hk
        have nb := below_alloc W9 (.cells #[.int .i64 (marksN k), .slice A (tiesL k).length cap] 145)
        have r0 := heap_alloc_new W9 (.cells #[.int .i64 (marksN k), .slice A (tiesL k).length cap] 145)
        replace q1 := (nb.block _ (size_of_block q1)).trans q1
        replace p0 := (nb.block _ (size_of_block p0)).trans p0
        replace p1 := (nb.block _ (size_of_block p1)).trans p1
        replace qb := below_then qb nb
        replace hT := hT.later nb
        clear nb
        go_wp2_with fail
        generalize W9.alloc _ = W10 at r0 q1 p0 p1 qb hT ⊢
        have hag := fun W (h : TiesAt W W.heap.size (.slice A (tiesL k).length cap) (tiesL k)) => agreesK_c k (.slice A (tiesL k).length cap) W HR.out h
        have HAG := Lib.hid hag
        have HNA := Lib.hid hna
        clear hag hna
        have hov := fun W => overlap_c (marksN k) A (tiesL k).length cap ⟨i, (i : Int) + 1⟩ ⟨markB k.ls.length j, markB k.ls.length ((j : Int) + 1)⟩ W
        simp only [pV, ovV, ovA] at hov
        have HOV := Lib.hid hov
        clear hov
        have E1 := Lib.hid e1
        have E2 := Lib.hid e2
        have hnn : ¬ (place k.ls ld < 0 ∨ place k.ds d < 0) := by rw [e1, e2]; omega
        have HNN := Lib.hid hnn
        clear e1 e2 hnn
        refine (HAG.out W10 hT).mono ?_
        rintro e W11 ⟨rfl, hF⟩
        replace q1 := (hF.block _ (size_of_block q1)).trans q1
        replace p0 := (hF.block _ (size_of_block p0)).trans p0
        replace p1 := (hF.block _ (size_of_block p1)).trans p1
        replace r0 := (hF.block _ (size_of_block r0)).trans r0
        replace qb := below_then qb hF
        replace hT := hT.later hF
        clear hF HAG
        by_cases hcc : canB (tiesL k) = true
        · rw [hcc]
          have HEE := Lib.hid (show (tookE k d ld).2 = 0 by rw [HE.out, if_neg HNN.out, if_pos hcc])
          clear hcc
          have x0 := Joins.cell_of_block r0 0
          have x1 := Joins.cell_of_block r0 1
          have zr := size_of_block r0
          have x2 := Joins.cell_of_block p0 0
          have x3 := Joins.cell_of_block p0 1
          have zp0 := size_of_block p0
          have x4 := Joins.cell_of_block p1 0
          have x5 := Joins.cell_of_block p1 1
          have zp1 := size_of_block p1
          go_wp2_with fail
          refine (HOV.out W11).mono ?_
          rintro e W12 ⟨rfl, hF⟩
          replace q1 := (hF.block _ (size_of_block q1)).trans q1
          replace qb := below_then qb hF
          replace hT := hT.later hF
          clear hF x0 x1 x2 x3 x4 x5 zr zp0 zp1 p0 p1 r0
          have HTS := Lib.hid ((Sl.setRow hT HNA.out #[.int .i64 (marksN k), .slice A (tiesL k).length cap, .int .i64 i, .int .i64 ((i : Int) + 1), .int .i64 i, .int .i64 (markB k.ls.length ((j : Int) + 1)), .int .i64 (markB k.ls.length j), .int .i64 ((i : Int) + 1), .int .i64 (markB k.ls.length j), .int .i64 (markB k.ls.length ((j : Int) + 1))]).more (by simp : W12.heap.size ≤ (W12.setRow (w.heap.size + 1) #[.int .i64 (marksN k), .slice A (tiesL k).length cap, .int .i64 i, .int .i64 ((i : Int) + 1), .int .i64 i, .int .i64 (markB k.ls.length ((j : Int) + 1)), .int .i64 (markB k.ls.length j), .int .i64 ((i : Int) + 1), .int .i64 (markB k.ls.length j), .int .i64 (markB k.ls.length ((j : Int) + 1))]).heap.size))
          clear hT
          have HV := Lib.hid (run_loadVar_row (P := Tryz.prog) _ (w.heap.size + 1) 173 173 #[.int .i64 (marksN k), .slice A (tiesL k).length cap, .int .i64 i, .int .i64 ((i : Int) + 1), .int .i64 i, .int .i64 (markB k.ls.length ((j : Int) + 1)), .int .i64 (markB k.ls.length j), .int .i64 ((i : Int) + 1), .int .i64 (markB k.ls.length j), .int .i64 (markB k.ls.length ((j : Int) + 1))] (0, 0) _ (setRow_heap _ _ _ _ _ _ q1) Tryz.underlying173 rfl (by kernel_rfl))
          have hBF := Lib.hid (below_setRow qb (show w.heap.size ≤ w.heap.size + 1 by omega) #[.int .i64 (marksN k), .slice A (tiesL k).length cap, .int .i64 i, .int .i64 ((i : Int) + 1), .int .i64 i, .int .i64 (markB k.ls.length ((j : Int) + 1)), .int .i64 (markB k.ls.length j), .int .i64 ((i : Int) + 1), .int .i64 (markB k.ls.length j), .int .i64 (markB k.ls.length ((j : Int) + 1))])
          go_wp2_with (first | (refine wpList_store_rowTo rfl 173 _ _ rfl rfl (w.heap.size + 1) #[.int .i64 (marksN k), .slice A (tiesL k).length cap, .int .i64 i, .int .i64 ((i : Int) + 1), .int .i64 i, .int .i64 (markB k.ls.length ((j : Int) + 1)), .int .i64 (markB k.ls.length j), .int .i64 ((i : Int) + 1), .int .i64 (markB k.ls.length j), .int .i64 (markB k.ls.length ((j : Int) + 1))] rfl rfl 173 _ q1 (by kernel_rfl) rfl (by kernel_rfl) ?_))
          refine bodyPost_ret (v := .tuple #[.agg #[.int .i64 (marksN k), .slice A (tiesL k).length cap, .int .i64 i, .int .i64 ((i : Int) + 1), .int .i64 i, .int .i64 (markB k.ls.length ((j : Int) + 1)), .int .i64 (markB k.ls.length j), .int .i64 ((i : Int) + 1), .int .i64 (markB k.ls.length j), .int .i64 (markB k.ls.length ((j : Int) + 1))], .int .i64 (0)]) ?_ rfl ⟨_, by rw [HEE.out], ⟨fun _ => ⟨A, cap, by rw [E1.out, E2.out]; rfl, HTS.out⟩, fun h => absurd HEE.out h⟩, hBF.out⟩
          simp [results, Tryz.results115, asAddr, HV.out]
        · have hcf : canB (tiesL k) = false := by simpa using hcc
          rw [hcf]
          have HEE := Lib.hid (show (tookE k d ld).2 = 9 by rw [HE.out, if_neg HNN.out, if_neg hcc])
          clear hcc hcf hT
          have HV := Lib.hid (run_loadVar_row (P := Tryz.prog) _ (w.heap.size + 1) 173 173 #[.int .i64 0, .slice none 0 0, .int .i64 0, .int .i64 0, .int .i64 0, .int .i64 0, .int .i64 0, .int .i64 0, .int .i64 0, .int .i64 0] (0, 0) _ (setRow_heap _ _ _ _ _ _ q1) Tryz.underlying173 rfl (by kernel_rfl))
          have hBF := Lib.hid (below_setRow qb (show w.heap.size ≤ w.heap.size + 1 by omega) #[.int .i64 0, .slice none 0 0, .int .i64 0, .int .i64 0, .int .i64 0, .int .i64 0, .int .i64 0, .int .i64 0, .int .i64 0, .int .i64 0])
          go_wp2_with (first | (refine wpList_store_rowTo rfl 173 _ _ rfl rfl (w.heap.size + 1) #[.int .i64 0, .slice none 0 0, .int .i64 0, .int .i64 0, .int .i64 0, .int .i64 0, .int .i64 0, .int .i64 0, .int .i64 0, .int .i64 0] rfl rfl 173 _ q1 (by kernel_rfl) rfl (by kernel_rfl) ?_))
          refine bodyPost_ret (v := .tuple #[.agg #[.int .i64 0, .slice none 0 0, .int .i64 0, .int .i64 0, .int .i64 0, .int .i64 0, .int .i64 0, .int .i64 0, .int .i64 0, .int .i64 0], .int .i64 (9)]) ?_ rfl ⟨_, by rw [HEE.out], ⟨fun h0 => absurd h0 (by rw [HEE.out]; decide), fun _ => rfl⟩, hBF.out⟩
          simp [results, Tryz.results115, asAddr, HV.out]
  · have d0 : (checkI k != 0) = true := by simpa using h0
    have HEE := Lib.hid (show (tookE k d ld).2 = checkI k by unfold tookE; rw [if_pos h0])
    have HNE := Lib.hid h0
    clear h0
    have HV := Lib.hid (run_loadVar_row (P := Tryz.prog) _ (w.heap.size + 1) 173 173 #[.int .i64 0, .slice none 0 0, .int .i64 0, .int .i64 0, .int .i64 0, .int .i64 0, .int .i64 0, .int .i64 0, .int .i64 0, .int .i64 0] (0, 0) _ (setRow_heap _ _ _ _ _ _ q1) Tryz.underlying173 rfl (by kernel_rfl))
    have hBF := Lib.hid (below_setRow qb (show w.heap.size ≤ w.heap.size + 1 by omega) #[.int .i64 0, .slice none 0 0, .int .i64 0, .int .i64 0, .int .i64 0, .int .i64 0, .int .i64 0, .int .i64 0, .int .i64 0, .int .i64 0])
    go_wp2_with (first | (refine wpList_store_rowTo rfl 173 _ _ rfl rfl (w.heap.size + 1) #[.int .i64 0, .slice none 0 0, .int .i64 0, .int .i64 0, .int .i64 0, .int .i64 0, .int .i64 0, .int .i64 0, .int .i64 0, .int .i64 0] rfl rfl 173 _ q1 (by kernel_rfl) rfl (by kernel_rfl) ?_))
    refine bodyPost_ret (v := .tuple #[.agg #[.int .i64 0, .slice none 0 0, .int .i64 0, .int .i64 0, .int .i64 0, .int .i64 0, .int .i64 0, .int .i64 0, .int .i64 0, .int .i64 0], .int .i64 (checkI k)]) ?_ rfl ⟨_, by rw [HEE.out], ⟨fun h0 => absurd h0 (by rw [HEE.out]; exact HNE.out), fun _ => rfl⟩, hBF.out⟩
    simp [results, Tryz.results115, asAddr, HV.out]
end Go.Proofs.YtnedcclmfokdnaaGreat
