/- Texts joined: SCirc. -/
import Derived.Test.YtnedcclmfokdnaaGreatJ19
import Derived.Test.YtnedcclmfokdnaaGreatJ2
import Derived.Test.YtnedcclmfokdnaaGreatJ21
namespace Go.Proofs.YtnedcclmfokdnaaGreat
open Go Go.RowKit
theorem back_at {l : List Tie} {b : Int → Int} {m : Nat} {t : Tie} (h : byT l b m = some t) : ∃ n : Nat, b m = n ∧ l[n]? = some t := by
  unfold byT at h
  split at h
  · exact ⟨(b m).toNat, by omega, h⟩
  · cases h
set_option maxRecDepth 100000 in
set_option maxHeartbeats 8000000 in
theorem circle_c (l : List Tie) (u : Value) (N frm v : Nat) (most by_ : Int → Int) (w : World) (hu : TiesAt w w.heap.size u l) (ok : NetOk l N) (hl : Loose l N by_ v) :
    Calls Tryz.prog 90 #[.agg #[.int .i64 N, u], .agg (sprA frm N most by_), .int .i64 v] w fun e w' => ∃ (x : Value) (p : List Int), e = .returned x ∧ circleI l p = 0 ∧ p.length ≤ 41 ∧
      w'.ownsRow w.heap.size 3 1 x p.length (p.map (Value.int .i64)) ∧ Below w.heap.size w w' := by
  obtain ⟨A, cap, rfl, _, hn, hat⟩ := TiesAt.open_ (id hu)
  have hN1 : N ≤ 41 := by have := ok.le; omega
  obtain ⟨k, k0, k1, k2, k3, k4, k5⟩ := hl.first
  have hok := hl.ok
  simp only [Int.toNat_natCast] at k1 k2 k3 k4 k5 hok
  have hrv := back_rng ok (b := by_) N v hl.rng
  obtain ⟨a, ha⟩ : ∃ a : Nat, back l by_ N v = a := ⟨(back l by_ N v).toNat, by omega⟩
  rw [ha] at k2 k3 k4 k5 hrv
  have hcl : circleI l (idxI l by_ k a) = 0 := by
    obtain ⟨x, t, e1, e2, e3, e4⟩ := walk_turn hl.byAt k0 k2 k3
    unfold circleI
    rw [e1]
    simp only [e2, e3, e4]
    rw [if_pos ⟨trivial, k4⟩]
  have HT := Lib.hid hat
  have OK := Lib.hid ok
  have K2 := Lib.hid k2
  have K3 := Lib.hid k3
  have K5 := Lib.hid k5
  have HO := Lib.hid hok
  have HA := Lib.hid ha
  have HC := Lib.hid hcl
  have HR := Lib.hid hl.rng
  have hk41 : k ≤ 41 := by omega
  have haN : a < N := by omega
  clear hat hu ok hl k2 k3 k4 k5 hok ha hcl hrv
  obtain ⟨i0, hi, hz0, hz1, hz2⟩ := info_parts Tryz.infoIntT
  have HI := Lib.hid hi
  have HI0 := Lib.hid hz0
  have HI1 := Lib.hid hz1
  have HI2 := Lib.hid hz2
  clear hi hz0 hz1 hz2
  obtain ⟨q0, q1, -, qb⟩ := two_new' w (.cells #[.int .i64 N, .slice A l.length cap] 145) (.cells (sprA frm N most by_) 142)
  go_enter Tryz.func90, Tryz.ntmps90
  go_wp2_with fail
  generalize (w.alloc _).alloc _ = W1 at q0 q1 qb ⊢
  have c00 := Joins.cell_of_block q0 0
  go_wp2_with fail
  go_loopw [7, 15] (fun m i wr => ∃ j : Nat, i = .int .i64 j ∧ j ≤ N ∧ m = .int .i64 (back l by_ j v) ∧ wr.heap[w.heap.size]? = some (.cells #[.int .i64 N, .slice A l.length cap] 145) ∧ wr.heap[w.heap.size + 1]? = some (.cells (sprA frm N most by_) 142) ∧ Below w.heap.size w wr) (fun _ i _ => (N - intOf i).toNat)
  case atStart => exact ⟨0, rfl, by omega, rfl, q0, q1, qb⟩
  case round =>
    clear q0 q1 qb c00
    obtain ⟨j, rfl, hj, rfl, q0, q1, hbw⟩ := hrel
    by_cases hlt : j < N
    · obtain ⟨t, ht, hbt⟩ := back_step (backOk_le HO.out (show j + 1 ≤ N by omega))
      have hrg := back_rng OK.out (b := by_) j v HR.out
      obtain ⟨m, hm⟩ : ∃ m : Nat, back l by_ j v = m := ⟨(back l by_ j v).toNat, by omega⟩
      rw [hm] at ht hrg
      obtain ⟨n, hn9, hln⟩ := back_at ht
      have hnl := (List.getElem?_eq_some_iff.1 hln).1
      obtain ⟨b, off, t', rfl, hb, hx0, y0, -, -, -⟩ := HT.out n hnl
      obtain rfl : t' = t := Option.some.inj (hx0.symm.trans hln)
      have hmN : m < N := by omega
      have eb := (Joins.cell_of_block q1 (42 + m)).trans (sprA_by hmN hN1)
      rw [hn9] at eb
      rw [hm]
      have z0 := (hbw.cell (p := ⟨b, off + n * 4, none⟩) hb).trans y0
      have f1 := Joins.cell_of_block q0 1
      have zb : b < wr.heap.size := Nat.lt_of_lt_of_le hb hbw.size
      have zs := size_of_block q1
      have zs0 := size_of_block q0
      have HB2 := Lib.hid hbt
      have HX := Lib.hid (⟨q0, q1, hbw⟩ : wr.heap[w.heap.size]? = some (.cells #[.int .i64 N, .slice (some ⟨b, off, none⟩) l.length cap] 145) ∧ wr.heap[w.heap.size + 1]? = some (.cells (sprA frm N most by_) 142) ∧ Below w.heap.size w wr)
      clear hbt ht hx0 hln hm hrg hn9 y0 q0 q1 hbw
      go_wp2_with fail
      refine wp_region_grown_tail 9 (by kernel_rfl) (by kernel_rfl) fun hcg => ?_
      simp only [List.take_succ_cons, List.take_zero, List.drop_succ_cons, List.drop_zero]
      repeat (go_big_quiet_step (fail))
      refine wpQuiet_nil ?_
      intro _ hw'
      obtain ⟨g, hw''⟩ := hw'
      subst hw''
      have q0 := (g.b.block _ zs0).trans HX.out.1
      have q1 := (g.b.block _ zs).trans HX.out.2.1
      have hbw := below_then HX.out.2.2 g.b
      generalize g.val = W2 at q0 q1 hbw ⊢
      clear hcg z0 eb f1 zb zs zs0
      go_wp2_with fail
      go_roundw
      case rel => exact ⟨j + 1, by push_cast; rfl, by omega, by rw [HB2.out], q0, q1, hbw⟩
      case measure => simp [intOf]; omega
    · obtain rfl : j = N := by omega
      rw [HA.out]
      obtain ⟨wo, rfl⟩ : ∃ wo : World, wo = wr := ⟨_, rfl⟩
      obtain ⟨t, ht, hbt⟩ := back_step (backOk_le K2.out (show 0 + 1 ≤ k by omega))
      have hsn := stepsI_snoc 0 (a : Int) (backOk_le K2.out (show 0 + 1 ≤ k by omega))
      simp only [back, Nat.zero_add] at ht hbt hsn
      obtain ⟨n, hn9, hln⟩ := back_at ht
      rw [hn9] at hsn
      have hnl := (List.getElem?_eq_some_iff.1 hln).1
      obtain ⟨b, off, t', rfl, hb, hx0, y0, -, -, -⟩ := HT.out n hnl
      obtain rfl : t' = t := Option.some.inj (hx0.symm.trans hln)
      have eb := (Joins.cell_of_block q1 (42 + a)).trans (sprA_by haN hN1)
      rw [hn9] at eb
      have z0 := (hbw.cell (p := ⟨b, off + n * 4, none⟩) hb).trans y0
      have f1 := Joins.cell_of_block q0 1
      have zb : b < wo.heap.size := Nat.lt_of_lt_of_le hb hbw.size
      have zs := size_of_block q1
      have zs0 := size_of_block q0
      have hown : (wo.alloc (.cells #[.int .i64 n] 3)).ownsRow w.heap.size 3 1 (.slice (some ⟨wo.heap.size, 0, none⟩) 1 1) 1 ((stepsI l by_ 1 a).map (Value.int .i64)) := by
        rw [hsn]
        exact World.ownsRow_lit wo #[.int .i64 n] 1 (Nat.le_trans hbw.size (Nat.le_refl _)) (by unfold maxLen; omega) rfl
      have ab := below_alloc wo (.cells #[.int .i64 n] 3)
      have q0' := (ab.block _ zs0).trans q0
      have q1' := (ab.block _ zs).trans q1
      have hbw' := below_then hbw ab
      have HB1 := Lib.hid hbt
      have HOW := Lib.hid hown
      have HX := Lib.hid (⟨q0', q1', hbw'⟩ : _ ∧ _ ∧ _)
      clear hbt ht hx0 hln hn9 y0 hsn hown ab q0 q1 hbw q0' q1' hbw'
      go_wp2_with fail
      clear z0 eb f1 zb zs zs0
      generalize wo.alloc _ = W3 at HOW HX ⊢
      go_loopg [9, 10] (k - 1) (fun gh s m wr => ∃ jj : Nat, jj + gh = k ∧ 0 < jj ∧ m = .int .i64 (back l by_ jj a) ∧ wr.ownsRow w.heap.size 3 1 s jj ((stepsI l by_ jj a).map (Value.int .i64)) ∧ wr.heap[w.heap.size]? = some (.cells #[.int .i64 j, .slice (some ⟨b, off, none⟩) l.length cap] 145) ∧ wr.heap[w.heap.size + 1]? = some (.cells (sprA frm j most by_) 142) ∧ Below w.heap.size w wr)
      case atStart => exact ⟨1, by omega, by omega, by rw [← HB1.out]; simp only [back], HOW.out, HX.out.1, HX.out.2.1, HX.out.2.2⟩
      case round =>
        obtain ⟨jj, hjj, hj0, rfl, hO, q0, q1, hbw⟩ := hrel
        cases gk with
        | zero =>
          obtain rfl : k = jj := by omega
          have hfr := K3.out
          have d1 : (back l by_ k a != (a : Int)) = false := by rw [hfr]; simp
          have hlen := stepsI_len k a K2.out
          have hO2 : wr.ownsRow w.heap.size 3 1 u9 (stepsI l by_ k a).length ((stepsI l by_ k a).map (Value.int .i64)) := by rw [hlen]; exact hO
          have hrv := reverse_c _ (stepsI l by_ k a) w.heap.size wr hO2 (by omega)
          rw [stepsI_rev k a K2.out, hlen] at hrv
          have hl2 := idxI_len k a K2.out
          have HRV := Lib.hid hrv
          have HL2 := Lib.hid hl2
          clear hfr hO hO2 hlen hrv hl2
          generalize back l by_ k a = z at d1 ⊢
          go_wp2_with fail
          refine HRV.out.mono ?_
          rintro e W9 ⟨⟨x9, rfl⟩, ho9, hb9⟩
          go_wp2_with fail
          go_ret
          exact ⟨_, idxI l by_ k a, rfl, HC.out, by rw [HL2.out]; omega, by rw [HL2.out]; exact ho9, hbw.trans hb9⟩
        | succ gh =>
          have hbk := backOk_le K2.out (show jj + 1 ≤ k by omega)
          obtain ⟨t, ht, hbt⟩ := back_step hbk
          have hsn := stepsI_snoc jj (a : Int) hbk
          have hrg := back_rng OK.out (b := by_) jj a (by omega)
          obtain ⟨m, hm⟩ : ∃ m : Nat, back l by_ jj a = m := ⟨(back l by_ jj a).toNat, by omega⟩
          have hne := K5.out jj hj0 (by omega)
          rw [hm] at ht hsn hne
          have hmN : m < j := by omega
          obtain ⟨n2, hn9, hln⟩ := back_at ht
          rw [hn9] at hsn
          have hnl := (List.getElem?_eq_some_iff.1 hln).1
          obtain ⟨b', off', t'', he, hb', hx0, y0, -, -, -⟩ := HT.out n2 hnl
          obtain ⟨rfl, rfl⟩ : b' = b ∧ off' = off := by cases he; exact ⟨rfl, rfl⟩
          obtain rfl : t'' = t := Option.some.inj (hx0.symm.trans hln)
          have d1 : ((m : Int) != (a : Int)) = true := by rw [bne_iff_ne]; exact hne
          have eb := (Joins.cell_of_block q1 (42 + m)).trans (sprA_by hmN hN1)
          rw [hn9] at eb
          rw [hm]
          have HB2 := Lib.hid hbt
          have HSN := Lib.hid hsn
          have hbs := hbw.size
          clear hsn hbt hne ht hx0 hm hrg hbk hn9 hln he
          go_wp2_with (at_builtin; refine wpList_append_own _ rfl _ _ 27 rfl w.heap.size 3 i0 (.int .i64 0) 1 8 Tryz.underlying27 HI.out HI0.out HI1.out HI2.out rfl (by decide) _ _ _ rfl (hO.alloc _) ⟨wr.heap.size, 0, none⟩ 1 1 [.int .i64 n2] rfl rfl (cell_one_new _ _ _) (one_oneCell rfl) ?c3 ?c4 ?c5 ?_)
          case c3 => unfold maxLen; omega
          case c4 => omega
          case c5 => simp; omega
          intro v' w2 hown' hgrow _
          have a0 := ((below_alloc wr (.cells #[.int .i64 n2] 3)).block _ (size_of_block q0)).trans q0
          have a1 := ((below_alloc wr (.cells #[.int .i64 n2] 3)).block _ (size_of_block q1)).trans q1
          have q0' := (hgrow.block _ (size_of_block a0) (Ne.symm (own_ne_block (hO.alloc _) a0 (by decide)))).trans a0
          have q1' := (hgrow.block _ (size_of_block a1) (Ne.symm (own_ne_block (hO.alloc _) a1 (by decide)))).trans a1
          have hB2 := below_append hbw hbs hO hgrow
          clear hgrow hO a0 a1 q0 q1 eb
          have f1 := Joins.cell_of_block q0' 1
          have y0' := (hB2.cell (p := ⟨b', off' + n2 * 4, none⟩) hb').trans y0
          go_wp2_with fail
          go_roundg gh
          case rel => exact ⟨jj + 1, by omega, by omega, by rw [HB2.out], by rw [HSN.out, List.map_append]; exact hown', q0', q1', hB2⟩
          case measure => omega
end Go.Proofs.YtnedcclmfokdnaaGreat
