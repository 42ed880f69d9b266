/- Texts joined: SPath. -/
import Derived.Test.YtnedcclmfokdnaaGreatJ16
import Derived.Test.YtnedcclmfokdnaaGreatJ17
import Derived.Test.YtnedcclmfokdnaaGreatJ18
namespace Go.Proofs.YtnedcclmfokdnaaGreat
open Go Go.RowKit
def stepsI (l : List Tie) (b : Int → Int) : Nat → Int → List Int
  | 0, _ => []
  | k + 1, v => match byT l b v with | some t => b v :: stepsI l b k t.frm | none => []
theorem stepsI_rev {l : List Tie} {b : Int → Int} : ∀ (k : Nat) (v : Int), backOk l b k v → (stepsI l b k v).reverse = idxI l b k v
  | 0, _, _ => rfl
  | k + 1, v, h => by
    obtain ⟨t, ht, h⟩ := h
    simp only [stepsI, idxI, ht, List.reverse_cons, stepsI_rev k t.frm h]
theorem stepsI_len {l : List Tie} {b : Int → Int} : ∀ (k : Nat) (v : Int), backOk l b k v → (stepsI l b k v).length = k
  | 0, _, _ => rfl
  | k + 1, v, h => by
    obtain ⟨t, ht, h⟩ := h
    simp only [stepsI, ht, List.length_cons, stepsI_len k t.frm h]
theorem stepsI_snoc {l : List Tie} {b : Int → Int} : ∀ (j : Nat) (v : Int), backOk l b (j + 1) v → stepsI l b (j + 1) v = stepsI l b j v ++ [b (back l b j v)]
  | 0, v, h => by
    obtain ⟨t, ht, _⟩ := h
    simp only [stepsI, ht, back, List.nil_append]
  | j + 1, v, h => by
    obtain ⟨t, ht, h⟩ := h
    have e := stepsI_snoc j t.frm h
    rw [show stepsI l b (j + 1 + 1) v = b v :: stepsI l b (j + 1) t.frm by simp only [stepsI, ht], e]
    simp only [stepsI, ht, back, List.cons_append]
theorem back_step {l : List Tie} {b : Int → Int} {j : Nat} {v : Int} (h : backOk l b (j + 1) v) : ∃ t, byT l b (back l b j v) = some t ∧ back l b (j + 1) v = t.frm := by
  obtain ⟨h1, t, ht, _⟩ := (backOk_add l b j 1 v).1 h
  refine ⟨t, ht, ?_⟩
  rw [back_add l b j 1 v h1]
  simp only [back, ht]
set_option maxRecDepth 100000 in
set_option maxHeartbeats 8000000 in
theorem path_c (l : List Tie) (u : Value) (N frm v : Nat) (most by_ : Int → Int) (w : World) (hu : TiesAt w w.heap.size u l) (ok : NetOk l N) (hv : v < N) (hs : Settled l N frm most by_) :
    Calls Tryz.prog 96 #[.agg #[.int .i64 N, u], .agg (sprA frm N most by_), .int .i64 v] w fun e w' => ∃ (x : Value) (k : Nat), e = .returned x ∧ (k : Int) < N ∧ backOk l by_ k v ∧ back l by_ k v = frm ∧ backSum l by_ k v = most v ∧
      w'.ownsRow w.heap.size 3 1 x (idxI l by_ k v).length ((idxI l by_ k v).map (Value.int .i64)) ∧ Below w.heap.size w w' := by
  obtain ⟨A, cap, rfl, _, hn, hat⟩ := TiesAt.open_ (id hu)
  obtain ⟨k, k1, k2, k3, k4, k5⟩ := hs.path v (by omega) (by omega)
  have hN1 : N ≤ 41 := by have := ok.le; omega
  have HT := Lib.hid hat
  have OK := Lib.hid ok
  have K2 := Lib.hid k2
  have K5 := Lib.hid k5
  have HE := Lib.hid (⟨k1, k2, k3, k4⟩ : (k : Int) < N ∧ backOk l by_ k v ∧ back l by_ k v = frm ∧ backSum l by_ k v = most v)
  have hk41 : k ≤ 41 := by omega
  clear hat hu ok hs k1 k2 k3 k4 k5
  obtain ⟨i0, hi, hz0, hz1, hz2⟩ := info_parts Tryz.infoIntT
  have HI := Lib.hid hi
  have HI0 := Lib.hid hz0
  have HI1 := Lib.hid hz1
  have HI2 := Lib.hid hz2
  clear hi hz0 hz1 hz2
  obtain ⟨q0, q1, -, qb⟩ := two_new' w (.cells #[.int .i64 N, .slice A l.length cap] 145) (.cells (sprA frm N most by_) 142)
  go_enter Tryz.func96, Tryz.ntmps96
  go_wp2_with fail
  generalize (w.alloc _).alloc _ = W1 at q0 q1 qb ⊢
  go_loopg [7, 8] k (fun gh s m wr => ∃ j : Nat, j + gh = k ∧ m = .int .i64 (back l by_ j v) ∧ wr.ownsRow w.heap.size 3 1 s j ((stepsI l by_ j v).map (Value.int .i64)) ∧ wr.heap[w.heap.size]? = some (.cells #[.int .i64 N, .slice A l.length cap] 145) ∧ wr.heap[w.heap.size + 1]? = some (.cells (sprA frm N most by_) 142) ∧ Below w.heap.size w wr)
  case atStart => exact ⟨0, by omega, rfl, World.ownsRow_nil _ _ _ _, q0, q1, qb⟩
  case round =>
    clear q0 q1 qb
    obtain ⟨j, hj, rfl, hO, q0, q1, hbw⟩ := hrel
    have e0 : wr.cell? ⟨w.heap.size + 1, 0, none⟩ = some (.int .i64 frm) := (Joins.cell_of_block q1 0).trans rfl
    cases gk with
    | zero =>
      obtain rfl : k = j := by omega
      have hfr := HE.out.2.2.1
      have d1 : (back l by_ k v != (frm : Int)) = false := by rw [hfr]; simp
      have hlen := stepsI_len k v K2.out
      have hO2 : wr.ownsRow w.heap.size 3 1 u7 (stepsI l by_ k v).length ((stepsI l by_ k v).map (Value.int .i64)) := by rw [hlen]; exact hO
      have hrv := reverse_c _ (stepsI l by_ k v) w.heap.size wr hO2 (by omega)
      rw [stepsI_rev k v K2.out, hlen] at hrv
      have hl2 := idxI_len k v K2.out
      have HRV := Lib.hid hrv
      have HL2 := Lib.hid hl2
      clear hfr hO hO2 hlen hrv hl2
      generalize back l by_ k v = z at d1 ⊢
      go_wp2_with fail
      refine HRV.out.mono ?_
      rintro e W9 ⟨⟨x9, rfl⟩, ho9, hb9⟩
      go_wp2_with fail
      go_ret
      exact ⟨_, k, rfl, HE.out.1, HE.out.2.1, HE.out.2.2.1, HE.out.2.2.2, by rw [HL2.out]; exact ho9, hbw.trans hb9⟩
    | succ gh =>
      have hbk := backOk_le K2.out (show j + 1 ≤ k by omega)
      obtain ⟨t, ht, hbt⟩ := back_step hbk
      have hsn := stepsI_snoc j v hbk
      have hrg := back_rng OK.out (b := by_) j v (by omega)
      obtain ⟨m, hm⟩ : ∃ m : Nat, back l by_ j v = m := ⟨(back l by_ j v).toNat, by omega⟩
      have hne := K5.out j (by omega)
      rw [hm] at ht hsn hne
      have hmN : m < N := by omega
      have ht2 := ht
      unfold byT at ht2
      split at ht2
      · rename_i hp
        obtain ⟨n, hn9⟩ : ∃ n : Nat, by_ (m : Int) = n := ⟨(by_ (m : Int)).toNat, by omega⟩
        rw [hn9] at ht2 hsn
        rw [Int.toNat_natCast] at ht2
        have hnl := (List.getElem?_eq_some_iff.1 ht2).1
        obtain ⟨b, off, t', rfl, hb, hx0, c0, -, -, -⟩ := HT.out n hnl
        obtain rfl : t' = t := Option.some.inj (hx0.symm.trans ht2)
        have d1 : ((m : Int) != (frm : Int)) = true := by rw [bne_iff_ne]; exact hne
        have eb := (Joins.cell_of_block q1 (42 + m)).trans (sprA_by hmN hN1)
        rw [hn9] at eb
        rw [hm]
        have HB2 := Lib.hid hbt
        have HSN := Lib.hid hsn
        have hbs := hbw.size
        clear hsn hbt hne ht ht2 hx0 hp hm hrg hbk hn9
        go_wp2_with (at_builtin; refine wpList_append_own _ rfl _ _ 27 rfl w.heap.size 3 i0 (.int .i64 0) 1 8 Tryz.underlying27 HI.out HI0.out HI1.out HI2.out rfl (by decide) _ _ _ rfl (hO.alloc _) ⟨wr.heap.size, 0, none⟩ 1 1 [.int .i64 n] rfl rfl (cell_one_new _ _ _) (one_oneCell rfl) ?c3 ?c4 ?c5 ?_)
        case c3 => unfold maxLen; omega
        case c4 => omega
        case c5 => simp; omega
        intro v' w2 hown' hgrow _
        have a0 := ((below_alloc wr (.cells #[.int .i64 n] 3)).block _ (size_of_block q0)).trans q0
        have a1 := ((below_alloc wr (.cells #[.int .i64 n] 3)).block _ (size_of_block q1)).trans q1
        have q0' := (hgrow.block _ (size_of_block a0) (Ne.symm (own_ne_block (hO.alloc _) a0 (by decide)))).trans a0
        have q1' := (hgrow.block _ (size_of_block a1) (Ne.symm (own_ne_block (hO.alloc _) a1 (by decide)))).trans a1
        have hB2 := below_append hbw hbs hO hgrow
        clear hgrow hO a0 a1 q0 q1 e0 eb
        have f1 := Joins.cell_of_block q0' 1
        have y0 := (hB2.cell (p := ⟨b, off + n * 4, none⟩) hb).trans c0
        go_wp2_with fail
        go_roundg gh
        case rel => exact ⟨j + 1, by omega, by rw [HB2.out], by rw [HSN.out, List.map_append]; exact hown', q0', q1', hB2⟩
        case measure => omega
      · cases ht2
end Go.Proofs.YtnedcclmfokdnaaGreat
