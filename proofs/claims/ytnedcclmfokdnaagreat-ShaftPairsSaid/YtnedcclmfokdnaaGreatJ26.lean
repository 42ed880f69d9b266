/- Texts joined: SSortI SNeeded SRests. -/
import Derived.Test.YtnedcclmfokdnaaGreatJ1
import Derived.Test.YtnedcclmfokdnaaGreatJ25
namespace Go.Proofs.YtnedcclmfokdnaaGreat
open Go Go.RowKit Go.Shelf Go.Sort
theorem put_perm (l : List Int) (n : Int) : (putI l n).Perm (n :: l) := by
  induction l with
  | nil => exact .refl _
  | cons x l ih =>
    unfold putI
    split
    · exact (ih.cons x).trans (.swap _ _ _)
    · exact .refl _
theorem foldput_perm (l : List Int) : ∀ acc : List Int, (l.foldl putI acc).Perm (acc ++ l) := by
  induction l with
  | nil => intro acc; simp
  | cons x l ih =>
    intro acc
    rw [List.foldl_cons]
    refine (ih _).trans ?_
    refine ((put_perm acc x).append_right l).trans ?_
    exact List.perm_middle.symm
theorem put_up {l : List Int} (h : l.Pairwise (· ≤ ·)) (n : Int) : (putI l n).Pairwise (· ≤ ·) := by
  induction l with
  | nil => simp [putI]
  | cons x l ih =>
    rw [List.pairwise_cons] at h
    unfold putI
    split
    · rename_i hx
      rw [List.pairwise_cons]
      refine ⟨fun y hy => ?_, ih h.2⟩
      rcases mem_put.1 hy with rfl | hy
      · omega
      · exact h.1 y hy
    · rename_i hx
      rw [List.pairwise_cons, List.pairwise_cons]
      refine ⟨fun y hy => ?_, h⟩
      rcases List.mem_cons.1 hy with rfl | hy
      · omega
      · have := h.1 y hy; omega
theorem foldput_up (l : List Int) : ∀ {acc : List Int}, acc.Pairwise (· ≤ ·) → (l.foldl putI acc).Pairwise (· ≤ ·) := by
  induction l with
  | nil => intro acc h; exact h
  | cons x l ih => intro acc h; exact ih (put_up h x)
theorem sort_merge (l : List Int) : (l.mergeSort fun x y => decide (x ≤ y)) = sortI l := by
  have h1 : (l.mergeSort fun x y => decide (x ≤ y)).Pairwise (· ≤ ·) := by
    have := List.pairwise_mergeSort (le := fun x y : Int => decide (x ≤ y)) (fun a b c h1 h2 => by simp at *; omega) (fun a b => by simp; omega) l
    exact this.imp (fun h => by simpa using h)
  have h2 : (sortI l).Pairwise (· ≤ ·) := foldput_up l .nil
  have h3 : (sortI l).Perm l := by have := foldput_perm l []; simpa [sortI] using this
  exact List.Perm.eq_of_pairwise (fun a b _ _ h h' => Int.le_antisymm h h') h1 h2 ((List.mergeSort_perm _ _).trans h3.symm)
theorem sort_len (l : List Int) : (sortI l).length = l.length := by
  have h3 : (sortI l).Perm l := by have := foldput_perm l []; simpa [sortI] using this
  exact h3.length_eq
theorem holds_of_blockI {w : World} {g : Nat} {cur : Array Value} {e : TypeId} {ss : List Int} (hb : w.heap[g]? = some (.cells cur e (0, 0))) (ht : cur.toList.take ss.length = ss.map (Value.int .i64)) : Holds (Value.int .i64) w g 0 ss.toArray := by
  intro j hj
  have hj' : j < ss.length := by simpa using hj
  refine ⟨?_, by simp [World.frozen?, hb]⟩
  have h1 : (cur.toList.take ss.length)[j]? = (ss.map (Value.int .i64))[j]? := by rw [ht]
  rw [List.getElem?_take_of_lt hj'] at h1
  simp only [World.cell?, hb, Nat.zero_add]
  simp only [Option.isSome_none, Bool.false_eq_true, if_false]
  rw [← Array.getElem?_toList, h1]
  simp [hj']
theorem heap_sortedI {w : World} {g n : Nat} {os : Array Obj} {cur : Array Value} {e : TypeId} {fr : Nat × Nat} (d : Array Int) (hb : w.heap[g]? = some (.cells cur e fr)) :
    (grow (putRow (Value.int .i64) (Sort.ahead w n) g 0 d) os).heap[g]? = some (.cells (putCells (Value.int .i64) 0 d cur) e fr) := by
  have hg : g < w.heap.size := (Array.getElem?_eq_some_iff.1 hb).1
  rw [heap_grow_old _ _ (by simpa using hg)]
  simp [putRow, mapBlock, Sort.ahead, Array.getElem?_modify, hb, onCells]
theorem grownBy_sortedI {w : World} {g n : Nat} {os : Array Obj} (d : Array Int) : w.grownBy (grow (putRow (Value.int .i64) (Sort.ahead w n) g 0 d) os) (some g) := by
  refine ⟨rfl, rfl, rfl, by simp, fun k hk hne => ?_⟩
  rw [heap_grow_old _ _ (by simpa using hk)]
  have : g ≠ k := fun e => hne (by rw [e])
  simp [putRow, mapBlock, Sort.ahead, Array.getElem?_modify, this]
theorem take_putCellsI (cur : Array Value) (ts : List Int) (h : ts.length ≤ cur.size) : (putCells (Value.int .i64) 0 ts.toArray cur).toList.take ts.length = ts.map (Value.int .i64) := by
  apply List.ext_getElem?
  intro j
  by_cases hj : j < ts.length
  · rw [List.getElem?_take_of_lt hj, Array.getElem?_toList]
    simp [putCells, hj, show j < cur.size by omega]
  · rw [List.getElem?_take_eq_none (by omega), List.getElem?_eq_none (by simp; omega)]
theorem sortInts_c (base : Nat) (u : Value) (l : List Int) (w : World) (h : w.ownsRow base 3 1 u l.length (l.map (Value.int .i64))) (hl : l.length ≤ 5000) :
    Calls Tryz.prog 163 #[u] w fun e w' => e = .returned (.tuple #[]) ∧ w'.ownsRow base 3 1 u (sortI l).length ((sortI l).map (Value.int .i64)) ∧ w.grownBy w' u.ownBlock := by
  rcases h.2 with ⟨rfl, h0⟩ | ⟨g, cap, cur, rfl, hg, hh, hcap, hm, hsz, htk⟩
  · have hl0 : l = [] := List.length_eq_zero_iff.1 h0
    subst hl0
    have hs := AnyM.slices_Sort_int_none Tryz.sortI none 0 w
    change Calls Tryz.prog 163 _ _ _ at hs
    refine hs.mono ?_
    rintro e w' ⟨rfl, rfl⟩
    exact ⟨rfl, h, ⟨rfl, rfl, rfl, Nat.le_refl _, fun _ _ _ => rfl⟩⟩
  · have hs := AnyM.slices_Sort_int Tryz.sortI g 0 cap l w (holds_of_blockI hh (by simpa using htk)) (h.lt g rfl).2 (by omega)
    change Calls Tryz.prog 163 _ _ _ at hs
    refine hs.mono ?_
    rintro e w' ⟨rfl, n, os, rfl⟩
    rw [sort_merge, sort_len]
    exact ⟨rfl, ⟨by simp [sort_len], .inr ⟨g, cap, _, rfl, hg, heap_sortedI _ hh, hcap, hm, by simp [putCells, hsz], by rw [Nat.mul_one, ← sort_len l]; exact take_putCellsI cur (sortI l) (by rw [sort_len]; omega)⟩⟩, grownBy_sortedI _⟩
end Go.Proofs.YtnedcclmfokdnaaGreat
namespace Go.Proofs.YtnedcclmfokdnaaGreat
open Go Go.RowKit Go.Shelf
attribute [local go_sem] Oper.semAt_some Rel RelAt RelUpon
theorem need_zero (k : Kl) (q : Kl → Bool) : needL k q 0 = [] := by simp [needL]
theorem need_snoc {k : Kl} {q : Kl → Bool} {j : Nat} {x : Wg} (hx : k.ws[j]? = some x) : needL k q (j + 1) = needL k q j ++ if q (lessK k [x.id]) then [x.id] else [] := by
  unfold needL
  rw [List.take_add_one, hx, List.filterMap_append]
  congr 1
  by_cases h : q (lessK k [x.id]) = true <;> simp [h]
theorem ints_one {w : World} {g : Nat} {x : Int} {t : TypeId} (h : w.heap[g]? = some (.cells #[.int .i64 x] t)) : Ints w w.heap.size (.slice (some ⟨g, 0, none⟩) 1 1) [x] := by
  refine ⟨some ⟨g, 0, none⟩, 1, rfl, by simp, by simp, fun _ => ⟨g, 0, rfl, size_of_block h, fun i y hy j u hu => ?_⟩⟩
  match i, hy with
  | 0, hy =>
    simp at hy
    subst hy
    match j, hu with
    | 0, hu => simp [nC] at hu; subst hu; exact Joins.cell_of_block h 0
theorem lessN (k : Kl) (q : Kl → Bool) (j : Nat) : (needL k q j).length ≤ j := by
  unfold needL
  exact Nat.le_trans (List.length_filterMap_le _ _) (by rw [List.length_take]; omega)
set_option maxRecDepth 100000 in
set_option maxHeartbeats 8000000 in
theorem needed3_c (k : Kl) (v : Value) (gf : Nat) (p1 p2 p3 : Value) (q : Kl → Bool) (w : World) (hv : Kiln w v k) (hR : Right k) (he : ∀ args w, (callFunc gf args).run Tryz.prog w = .ok (.enter gf args) w)
    (hq : ∀ W u (g : Wg), g ∈ k.ws → Below w.heap.size w W → TiesAt W W.heap.size u (tiesL (lessK k [g.id])) → Calls Tryz.prog gf #[.agg #[.int .i64 (marksN k), u], p1, p2, p3] W fun e W' => e = .returned (.bool (q (lessK k [g.id]))) ∧ Below W.heap.size W W') :
    Calls Tryz.prog 124 #[v, .func (.func gf) #[] #[p1, p2, p3]] w fun e w' => ∃ x, e = .returned x ∧ w'.ownsRow w.heap.size 3 1 x (sortI (needL k q k.ws.length)).length ((sortI (needL k q k.ws.length)).map (Value.int .i64)) ∧ Below w.heap.size w w' := by
  obtain ⟨A1, c1, A2, c2, A3, c3, rfl⟩ := kilnForm hv
  have q0 := heap_alloc_new w (.cells #[.int .i64 k.room, .int .i64 k.per, .slice A1 k.ls.length c1, .slice A2 k.ds.length c2, .slice A3 k.ws.length c3] 26)
  have qb := below_alloc w (.cells #[.int .i64 k.room, .int .i64 k.per, .slice A1 k.ls.length c1, .slice A2 k.ds.length c2, .slice A3 k.ws.length c3] 26)
  have HKB := Lib.hid hv.toB
  have hwg : Wgs w w.heap.size (.slice A3 k.ws.length c3) k.ws := by
    obtain ⟨al, ad, aw, e9, _, _, hw⟩ := hv
    obtain ⟨rfl, rfl, rfl⟩ : .slice A1 k.ls.length c1 = al ∧ .slice A2 k.ds.length c2 = ad ∧ .slice A3 k.ws.length c3 = aw := by simpa using e9
    exact hw
  obtain ⟨A, cap, hAA, _, hlen, hat⟩ := hwg.open_
  obtain ⟨rfl, rfl⟩ : A3 = A ∧ c3 = cap := by simpa using hAA
  have HAT := Lib.hid hat
  have HR := Lib.hid hR
  have HQ := Lib.hid hq
  have n3 := hR.ws
  obtain ⟨i0, hi, hz0, hz1, hz2⟩ := info_parts Tryz.infoIntT
  have HI := Lib.hid hi
  have HI0 := Lib.hid hz0
  have HI1 := Lib.hid hz1
  have HI2 := Lib.hid hz2
  clear hv hwg hAA hat hR hq hi hz0 hz1 hz2
  go_enter Tryz.func124, Tryz.ntmps124
  have y0 := Joins.cell_of_block q0 0
  have y1 := Joins.cell_of_block q0 1
  have y2 := Joins.cell_of_block q0 2
  have y3 := Joins.cell_of_block q0 3
  have y4 := Joins.cell_of_block q0 4
  go_wp2_with fail
  have hsz1 : (w.alloc (.cells #[.int .i64 k.room, .int .i64 k.per, .slice A1 k.ls.length c1, .slice A2 k.ds.length c2, .slice A3 k.ws.length c3] 26)).heap.size = w.heap.size + 1 := by simp
  generalize w.alloc _ = W1 at q0 y0 y1 y2 y3 y4 qb hsz1 ⊢
  clear y0 y1 y2 y3 y4
  have Q0 := Lib.hid q0
  have QB := Lib.hid qb
  clear q0 qb
  go_loopw [5, 11] (fun u5 n wr => ∃ j : Nat, j ≤ k.ws.length ∧ n = .int .i64 j ∧ wr.ownsRow W1.heap.size 3 1 u5 (needL k q j).length ((needL k q j).map (Value.int .i64)) ∧ Below W1.heap.size W1 wr) (fun _ n _ => k.ws.length - (intOf n).toNat)
  case atStart => exact ⟨0, Nat.zero_le _, rfl, by rw [need_zero]; exact World.ownsRow_nil _ _ _ _, Below.refl _ _⟩
  case round =>
    obtain ⟨j, hj, rfl, hO, hbw⟩ := hrel
    have q0 := (hbw.block _ (show w.heap.size < W1.heap.size by omega)).trans Q0.out
    have qb := below_then QB.out hbw
    by_cases hlt : j < k.ws.length
    · obtain ⟨b, off, x, rfl, hb, hx, c0, c1', c2', c3', c4', c5'⟩ := HAT.out j hlt
      have hxm := List.mem_of_getElem? hx
      have HX := Lib.hid hxm
      have HNS := Lib.hid (need_snoc (q := q) hx)
      have hcl := Lib.hid (lessN k q j)
      replace c0 := (qb.cell (p := ⟨b, off + j * 6, none⟩) hb).trans c0
      replace c1' := (qb.cell (p := ⟨b, off + j * 6 + 1, none⟩) hb).trans c1'
      replace c2' := (qb.cell (p := ⟨b, off + j * 6 + 2, none⟩) hb).trans c2'
      replace c3' := (qb.cell (p := ⟨b, off + j * 6 + 3, none⟩) hb).trans c3'
      replace c4' := (qb.cell (p := ⟨b, off + j * 6 + 4, none⟩) hb).trans c4'
      replace c5' := (qb.cell (p := ⟨b, off + j * 6 + 5, none⟩) hb).trans c5'
      clear hx hxm
      obtain ⟨r0, r1, rz, rb⟩ := two_new' wr (.cells #[.int .i64 x.id, .int .i64 x.kind, .int .i64 x.frm, .int .i64 x.too, .int .i64 x.lo, .int .i64 x.hi] 112) (.cells #[.int .i64 x.id] 3)
      have y0 := Joins.cell_of_block q0 0
      have y1 := Joins.cell_of_block q0 1
      have y2 := Joins.cell_of_block q0 2
      have y3 := Joins.cell_of_block q0 3
      have y4 := Joins.cell_of_block q0 4
      have zq := size_of_block q0
      go_wp2_with fail
      generalize (wr.alloc _).alloc _ = W3 at r0 r1 rz rb ⊢
      clear y0 y1 y2 y3 y4 zq q0 c0 c1' c2' c3' c4' c5' HAT hb
      have qb3 := below_then qb rb
      have hO3 := own_later hO rb
      have hb3 := below_then hbw rb
      refine (without_c k (.agg #[.int .i64 k.room, .int .i64 k.per, .slice A1 k.ls.length c1, .slice A2 k.ds.length c2, .slice (some ⟨b, off, none⟩) k.ws.length c3]) _ [x.id] W3 ((HKB.out.below qb3).kiln qb3.size) (ints_one r1) HR.out).mono ?_
      rintro e W4 ⟨kv, rfl, hkv, hF⟩
      replace r0 := (hF.block _ (size_of_block r0)).trans r0
      replace hO3 := own_later hO3 hF
      replace hb3 := below_grown hb3 (by have := hb3.size; omega) hF
      replace qb3 := below_then qb3 hF
      clear hF r1 hO hbw rb
      have HKV := Lib.hid hkv
      clear hkv
      go_wp2_with fail
      refine (netOf_d (lessK k [x.id]) kv W4 HKV.out (less_right HR.out _)).mono ?_
      rintro e W5 ⟨u, rfl, ⟨hT, _⟩, hF⟩
      replace r0 := (hF.block _ (size_of_block r0)).trans r0
      replace hO3 := own_later hO3 hF
      replace hb3 := below_grown hb3 (by have := hb3.size; omega) hF
      replace qb3 := below_then qb3 hF
      clear hF HKV
      have hqc := Lib.hid (HQ.out W5 u x HX.out qb3 hT)
      clear hT
      have hcb := Lib.hid he
      go_wp2_with fail
      refine (hqc.out).mono ?_
      rintro e W6 ⟨rfl, hF⟩
      replace r0 := (hF.block _ (size_of_block r0)).trans r0
      replace hO3 := own_later hO3 hF
      replace hb3 := below_grown hb3 (by have := hb3.size; omega) hF
      replace qb3 := below_then qb3 hF
      clear hF hqc hcb
      have c0 := Joins.cell_of_block r0 0
      have zr := size_of_block r0
      obtain ⟨t, ht⟩ : ∃ t, t = q (lessK k [x.id]) := ⟨_, rfl⟩
      rw [← ht] at HNS ⊢
      clear ht r0 qb3
      cases t with
      | true =>
        rw [if_pos rfl] at HNS
        have hbs := hb3.size
        have hl := hcl.out
        go_wp2_with (at_builtin; refine wpList_append_own _ rfl _ _ 27 rfl W1.heap.size 3 i0 (.int .i64 0) 1 8 Tryz.underlying27 HI.out HI0.out HI1.out HI2.out rfl (by decide) _ _ _ rfl (hO3.alloc _) ⟨W6.heap.size, 0, none⟩ 1 1 [.int .i64 x.id] rfl rfl (cell_one_new _ _ _) (one_oneCell rfl) ?c3 ?c4 ?c5 ?_)
        case c3 => unfold maxLen; omega
        case c4 => omega
        case c5 => simp; omega
        intro v' w2 hown' hgrow _
        have hB2 := below_append hb3 hbs hO3 hgrow
        clear hgrow hO3 c0 zr hb3 hbs
        go_wp2_with fail
        go_roundw
        case rel => exact ⟨j + 1, by omega, by go_num, by rw [hsz1, HNS.out, List.length_append, List.map_append]; exact hown', hB2⟩
        case measure => simp [intOf]; omega
      | false =>
        rw [if_neg (by decide)] at HNS
        clear c0 zr
        go_wp2_with fail
        go_roundw
        case rel => exact ⟨j + 1, by omega, by go_num, by rw [HNS.out, List.append_nil]; exact hO3, hb3⟩
        case measure => simp [intOf]; omega
    · obtain rfl : j = k.ws.length := by omega
      have hlq := lessN k q k.ws.length
      have hs := sortInts_c W1.heap.size u5 (needL k q k.ws.length) wr hO (by omega)
      have hB := Lib.hid (fun w9 (hg : wr.grownBy w9 u5.ownBlock) => below_own qb qb.size (own_less hO (show w.heap.size ≤ W1.heap.size by omega)) hg)
      have HS := Lib.hid hs
      clear hs HAT q0 qb hbw hO
      go_wp2_with fail
      refine HS.out.mono ?_
      rintro e w9 ⟨rfl, ho, hg⟩
      have hB9 := hB.out w9 hg
      clear hg HS hB
      go_wp2_with fail
      go_ret
      exact ⟨_, rfl, own_less ho (by omega), hB9⟩
end Go.Proofs.YtnedcclmfokdnaaGreat
namespace Go.Proofs.YtnedcclmfokdnaaGreat
open Go Go.RowKit Go.Shelf
attribute [local go_sem] Oper.semAt_some Rel RelAt RelUpon
theorem spreadU_c (k : Kl) (u : Value) (frm : Nat) (w : World) (hR : Right k) (hf : frm < mN k) (hT : TiesAt w w.heap.size u (tiesL k)) :
    Calls Tryz.prog 88 #[.agg #[.int .i64 (marksN k), u], .int .i64 frm] w fun e w' => ∃ most by_ loose, e = .returned (.tuple #[.agg (sprA frm (mN k) most by_), .int .i64 loose]) ∧
      (loose = -1 ∧ Settled (tiesL k) (marksN k) frm most by_ ∧ canB (tiesL k) = true ∨ Loose (tiesL k) (marksN k) by_ loose ∧ loose ≠ -1 ∧ canB (tiesL k) = false) ∧ Below w.heap.size w w' := by
  obtain ⟨A, cap, rfl⟩ := Sl.form1 hT
  exact spreadK_c k A cap frm w hR hf hT
set_option maxRecDepth 100000 in
set_option maxHeartbeats 8000000 in
theorem rests1_c (k : Kl) (N x y : Nat) (u : Value) (M0 B0 : Int → Int) (g1 g2 g3 : Nat) (w : World) (h1 : w.heap[g1]? = some (.cells #[.int .i64 x] 3)) (h2 : w.heap[g2]? = some (.cells #[.int .i64 y] 3)) (h3 : w.heap[g3]? = some (.cells (sprA x N M0 B0) 142))
    (hT : TiesAt w w.heap.size u (tiesL k)) (hR : Right k) (hN : mN k = N) (hx : x < N) (hy : y < N) (hc : Can (tiesL k)) :
    Calls Tryz.prog 125 #[.agg #[.int .i64 (marksN k), u], .pointer (some ⟨g1, 0, none⟩), .pointer (some ⟨g2, 0, none⟩), .pointer (some ⟨g3, 0, none⟩)] w fun e w' => e = .returned (.bool (dst (tiesL k) x y != M0 y)) ∧ Below w.heap.size w w' := by
  obtain ⟨A, cap, rfl⟩ := Sl.form1 hT
  have hN1 : N ≤ 41 := by rw [← hN]; exact mN_le hR
  have hmn := mN_eq k
  have q0 := heap_alloc_new w (.cells #[.int .i64 (marksN k), .slice A (tiesL k).length cap] 145)
  have qb := below_alloc w (.cells #[.int .i64 (marksN k), .slice A (tiesL k).length cap] 145)
  have HSP := Lib.hid (fun W h => spreadU_c k (.slice A (tiesL k).length cap) x W hR (by omega) h)
  have HD := Lib.hid (fun M B (h : Settled (tiesL k) (marksN k) x M B) => dst_settled h (v := (y : Int)) (by omega) (by omega))
  have HC := Lib.hid hc
  have hn9 : marksN k = (N : Nat) := by rw [hmn, hN]
  rw [hN] at HSP
  have HT := Lib.hid (hT.later qb)
  replace h1 := (qb.block _ (size_of_block h1)).trans h1
  replace h2 := (qb.block _ (size_of_block h2)).trans h2
  replace h3 := (qb.block _ (size_of_block h3)).trans h3
  clear hR hN hc hmn hT hn9
  go_enter Tryz.func125, Tryz.ntmps125
  have y0 := Joins.cell_of_block q0 0
  have y1 := Joins.cell_of_block q0 1
  have c0 := Joins.cell_of_block h1 0
  have z1 := size_of_block h1
  go_wp2_with fail
  generalize w.alloc _ = W1 at q0 qb HT h1 h2 h3 y0 y1 c0 z1 ⊢
  refine (HSP.out W1 HT.out).mono ?_
  rintro e W4 ⟨M, B, loose, rfl, hres, hF⟩
  obtain ⟨rfl, hs⟩ : loose = -1 ∧ Settled (tiesL k) (marksN k) x M B := by
    rcases hres with ⟨a, b, _⟩ | ⟨h, _⟩
    · exact ⟨a, b⟩
    · obtain ⟨cc, hcc⟩ := h.circle
      exact absurd HC.out (can_circle hcc)
  have hds := HD.out M B hs
  have hsz := hs.size (y : Int)
  replace h2 := (hF.block _ (size_of_block h2)).trans h2
  replace h3 := (hF.block _ (size_of_block h3)).trans h3
  replace qb := below_then qb hF
  clear hF y0 y1 c0 z1 hres hs HSP HD HC HT q0 h1
  obtain ⟨W5, hW5⟩ : ∃ W5, W5 = (W4.alloc (.cells Tryz.zeroCells142 142)).setRow W4.heap.size (sprA x N M B) := ⟨_, rfl⟩
  have b5 : Below W4.heap.size W4 W5 := by rw [hW5]; exact below_setRow (below_alloc _ _) (Nat.le_refl _) _
  have r5 : W5.heap[W4.heap.size]? = some (.cells (sprA x N M B) 142) := by rw [hW5]; exact setRow_heap _ _ _ _ _ _ (heap_alloc_new W4 _)
  have HW5 := Lib.hid hW5
  replace h2 := (b5.block _ (size_of_block h2)).trans h2
  replace h3 := (b5.block _ (size_of_block h3)).trans h3
  replace qb := below_then qb b5
  clear b5 hW5
  have HDS := Lib.hid hds
  have hy3 : (y : Int) < 41 := by omega
  clear hds hsz
  go_wp2_with (first | (refine wpList_store_rowTo rfl 142 _ _ rfl rfl W4.heap.size (sprA x N M B) rfl rfl 142 _ (heap_alloc_new W4 _) (by kernel_rfl) (by rw [sprA_size]; kernel_rfl) (by rw [sprA_size]; kernel_rfl) ?_; rw [← HW5.out]))
  refine wp_region_looseM [] [0, 1, 2, 3, 4, 5, 6, 7] .done [] [8] [9] [] [] (by kernel_rfl) (by kernel_rfl) (by intro c a d v w h; cases d <;> exact h) (by intro c a d v w h; cases d <;> exact h) rfl (fun r i h => by simp at h) ?_
  simp only [pick, List.filterMap_cons, List.filterMap_nil, List.getElem?_toArray, List.getElem?_cons_succ, List.getElem?_cons_zero]
  intro u1 hu1
  replace r5 := (hu1.block _ (size_of_block r5)).trans r5
  replace h2 := (hu1.block _ (size_of_block h2)).trans h2
  replace h3 := (hu1.block _ (size_of_block h3)).trans h3
  replace qb := below_then qb hu1
  have ch20 := Joins.cell_of_block h2 0
  have zh2 := size_of_block h2
  have hcg : ∀ (g : Gr u1) b o, b < u1.heap.size → g.val.cell? ⟨b, o, none⟩ = u1.cell? ⟨b, o, none⟩ := fun g b o h => (bcell g.b).1 b o h
  have m1 := (Joins.cell_of_block r5 (1 + y)).trans (sprA_most hy hN1)
  have m0 := (Joins.cell_of_block h3 (1 + y)).trans (sprA_most hy hN1)
  have zr5 := size_of_block r5
  have zh3 := size_of_block h3
  iterate 8 (refine wpRel_step (fun K hK => ?_); go_simp; refine hK _ ?_; clear hK K)
  refine wpRel_nil fun V1_0 hb1 => ?_
  clear m1 m0 zr5 zh3
  clear hcg ch20 zh2
  replace h2 := (hb1.block _ (size_of_block h2)).trans h2
  replace h3 := (hb1.block _ (size_of_block h3)).trans h3
  replace r5 := (hb1.block _ (size_of_block r5)).trans r5
  replace qb := below_then qb hb1
  clear hb1 hu1
  show wpPure _ _ _ _
  refine wpPure_step (.bool (M y != M0 y)) rfl (fun u => rfl) ?_
  intro ks hks _ _
  obtain rfl : ks = [] := List.length_eq_zero_iff.1 hks
  clear hks
  show wpList _ _ _ _ _ _
  simp only [deco]
  go_wp2_with fail
  go_ret
  exact ⟨ret_bool (by rw [HDS.out]), qb⟩
set_option maxRecDepth 100000 in
set_option maxHeartbeats 8000000 in
theorem Rests_c (k : Kl) (v : Value) (fr to : Int) (w : World) (hv : Kiln w v k) :
    Calls Tryz.prog 54 #[v, .int .i64 fr, .int .i64 to] w fun e w' => ∃ u, e = .returned (.tuple #[u, .int .i64 (mostE k fr to).2]) ∧ w'.ownsRow w.heap.size 3 1 u (restsL k fr to).length ((restsL k fr to).map (Value.int .i64)) ∧ Below w.heap.size w w' := by
  obtain ⟨A1, c1, A2, c2, A3, c3, rfl⟩ := kilnForm hv
  obtain ⟨q0, q1, q2, -, qb⟩ := three_new w (.cells #[.int .i64 k.room, .int .i64 k.per, .slice A1 k.ls.length c1, .slice A2 k.ds.length c2, .slice A3 k.ws.length c3] 26) (.cells #[.int .i64 fr] 3) (.cells #[.int .i64 to] 3)
  have HKB := Lib.hid hv.toB
  have hk := hv.later qb
  clear hv
  go_enter Tryz.func54, Tryz.ntmps54
  have y0 := Joins.cell_of_block q0 0
  have y1 := Joins.cell_of_block q0 1
  have y2 := Joins.cell_of_block q0 2
  have y3 := Joins.cell_of_block q0 3
  have y4 := Joins.cell_of_block q0 4
  have x1 := Joins.cell_of_block q1 0
  have x2 := Joins.cell_of_block q2 0
  go_wp2_with fail
  generalize ((w.alloc _).alloc _).alloc _ = W1 at q0 q1 q2 qb hk ⊢
  refine (checkMarks_c k _ fr to W1 hk).mono ?_
  rintro e W2 ⟨rfl, hF⟩
  replace q0 := (hF.block _ (size_of_block q0)).trans q0
  replace q1 := (hF.block _ (size_of_block q1)).trans q1
  replace q2 := (hF.block _ (size_of_block q2)).trans q2
  replace qb := below_then qb hF
  replace hk := hk.later hF
  clear hF y0 y1 y2 y3 y4 x1 x2
  by_cases h0 : marksI k fr to = 0
  · have hc0 : checkI k = 0 := by
      unfold marksI at h0
      split at h0
      · rename_i h; exact absurd h0 h
      · rename_i h; simpa using h
    have hrg : (0 ≤ fr ∧ fr < marksN k) ∧ 0 ≤ to ∧ to < marksN k := by
      unfold marksI at h0
      rw [if_neg (by simp [hc0])] at h0
      split at h0
      · rename_i h; unfold marksN; omega
      · cases h0
    have hR := right_of_check hc0
    have hmn := mN_eq k
    have hN1 := mN_le hR
    obtain ⟨x, rfl⟩ : ∃ x : Nat, fr = x := ⟨fr.toNat, by omega⟩
    obtain ⟨y, rfl⟩ : ∃ y : Nat, to = y := ⟨to.toNat, by omega⟩
    have hx : x < mN k := by omega
    have hy : y < mN k := by omega
    have HR := Lib.hid hR
    have HME := Lib.hid (show (mostE k x y).2 = if canB (tiesL k) = true then 0 else 9 by unfold mostE; rw [if_neg (by simp [h0])]; split <;> rfl)
    have d0 : ((0 : Int) != 0) = false := rfl
    rw [h0]
    have HMN := Lib.hid hmn
    have hws2 := size_of_block q2
    clear hc0 hrg hR hmn h0
    go_wp2_with fail
    refine wp_region_looseM [] [0, 2] (.one 1 (.one 3 .done)) [7] [4, 5, 6] [8, 9] [some 9] [.cells Tryz.zeroCells142 142] (by kernel_rfl) (by kernel_rfl) (by intro c a d v w h; cases d <;> exact h) (by intro c a d v w h; cases d <;> exact h) rfl (by intro r i hri; match r, hri with | 0, hri => cases hri; exact ⟨_, _, rfl, rfl, rfl, rfl, fun a u => by simp [execOp, go_sem, ptrV]⟩) ?_
    simp only [pick, List.filterMap_cons, List.filterMap_nil, List.getElem?_toArray, List.getElem?_cons_succ, List.getElem?_cons_zero]
    intro u1 hu1
    replace q1 := (hu1.block _ (size_of_block q1)).trans q1
    replace q2 := (hu1.block _ (size_of_block q2)).trans q2
    replace q0 := (hu1.block _ (size_of_block q0)).trans q0
    replace hk := hk.later hu1
    replace qb := below_then qb hu1
    have cq00 := Joins.cell_of_block q0 0
    have cq01 := Joins.cell_of_block q0 1
    have cq02 := Joins.cell_of_block q0 2
    have cq03 := Joins.cell_of_block q0 3
    have cq04 := Joins.cell_of_block q0 4
    have zq0 := size_of_block q0
    have cq10 := Joins.cell_of_block q1 0
    have zq1 := size_of_block q1
    have hcg : ∀ (g : Gr u1) b o, b < u1.heap.size → g.val.cell? ⟨b, o, none⟩ = u1.cell? ⟨b, o, none⟩ := fun g b o h => (bcell g.b).1 b o h
    iterate 2 (refine wpRel_step (fun K hK => ?_); go_simp; refine hK _ ?_; clear hK K)
    refine wpRel_nil fun V1_0 hb1 => ?_
    clear hcg cq00 cq01 cq02 cq03 cq04 zq0 cq10 zq1
    replace q0 := (hb1.block _ (size_of_block q0)).trans q0
    replace q1 := (hb1.block _ (size_of_block q1)).trans q1
    replace q2 := (hb1.block _ (size_of_block q2)).trans q2
    replace hk := hk.later hb1
    replace qb := below_then qb hb1
    clear hb1 hu1
    refine wpTr_step rfl rfl fun K hK => ?_
    go_simp
    refine (netOf_d k _ V1_0 hk HR.out).mono ?_
    rintro e X ⟨u, rfl, ⟨hT, _⟩, hxx⟩
    refine hK _ _ hxx fun V1_1 hu => ?_
    clear hK K
    have hxu := below_then hxx hu
    replace hT := hT.later hu
    replace q0 := (hxu.block _ (size_of_block q0)).trans q0
    replace q1 := (hxu.block _ (size_of_block q1)).trans q1
    replace q2 := (hxu.block _ (size_of_block q2)).trans q2
    replace hk := hk.later hxu
    replace qb := below_then qb hxu
    clear hu hxu
    refine wpTr_step rfl rfl fun K hK => ?_
    go_simp
    refine (spreadU_c k u x V1_1 HR.out hx hT).mono ?_
    rintro e X ⟨M, B, loose, rfl, hres, hxx⟩
    refine hK _ _ hxx fun V1_2 hu => ?_
    clear hK K
    have hxu := below_then hxx hu
    replace q0 := (hxu.block _ (size_of_block q0)).trans q0
    replace q1 := (hxu.block _ (size_of_block q1)).trans q1
    replace q2 := (hxu.block _ (size_of_block q2)).trans q2
    replace hk := hk.later hxu
    replace qb := below_then qb hxu
    clear hu hxu
    show wpPure _ _ _ _
    refine wpPure_step (.tuple #[.agg (sprA x (mN k) M B), .int .i64 loose]) rfl (fun u => rfl) ?_
    refine wpPure_step (.agg (sprA x (mN k) M B)) rfl (fun u => rfl) ?_
    refine wpPure_step (.int .i64 loose) rfl (fun u => rfl) ?_
    intro ks hks hall hH
    obtain ⟨k1, rfl⟩ : ∃ k1, ks = [some k1] := by
      match ks, hks with
      | [none], _ => exact absurd rfl (hall 0)
      | [some k1], _ => exact ⟨k1, rfl⟩
    obtain ⟨o1, ge1, lt1⟩ := hH.obj 0 k1 rfl
    rw [show ([Obj.cells Tryz.zeroCells142 142])[0]? = some (.cells Tryz.zeroCells142 142) from rfl] at o1
    clear hH hall hks
    show wpList _ _ _ _ _ _
    simp only [deco, ptrV]
    refine wpList_store_rowTo rfl 142 _ _ rfl rfl k1 (sprA x (mN k) M B) rfl rfl 142 _ o1 (by kernel_rfl) (by rw [sprA_size]; kernel_rfl) (by rw [sprA_size]; kernel_rfl) ?_
    have r5 : (V1_2.setRow k1 (sprA x (mN k) M B)).heap[k1]? = some (.cells (sprA x (mN k) M B) 142) := setRow_heap _ _ _ _ _ _ o1
    have hb5 := below_setRow (Below.refl k1 V1_2) (Nat.le_refl _) (sprA x (mN k) M B)
    have hw1 := size_of_block q2
    have hkk := (HKB.out.below qb)
    replace q0 := (hb5.block _ (show w.heap.size < k1 by omega)).trans q0
    replace q1 := (hb5.block _ (show w.heap.size + 1 < k1 by omega)).trans q1
    replace q2 := (hb5.block _ (show w.heap.size + 1 + 1 < k1 by omega)).trans q2
    replace qb := below_setRow qb (show w.heap.size ≤ k1 by omega) (sprA x (mN k) M B)
    clear hb5 o1 ge1 lt1 hk hT hkk
    generalize V1_2.setRow k1 (sprA x (mN k) M B) = W5 at r5 q0 q1 q2 qb ⊢
    have hk := (HKB.out.below qb).kiln qb.size
    rcases hres with ⟨rfl, hs, hcc⟩ | ⟨_, hl, hcc⟩
    · have HCL := Lib.hid (show (mostE k x y).2 = 0 by rw [HME.out, if_pos hcc])
      have hds := dst_settled hs (v := (y : Int)) (by omega) (by rw [HMN.out]; omega)
      have HLE := Lib.hid (show restsL k x y = sortI (needL k (otherB k x y) k.ws.length) by unfold restsL; rw [if_pos HCL.out])
      have hq : ∀ W u (g : Wg), g ∈ k.ws → Below W5.heap.size W5 W → TiesAt W W.heap.size u (tiesL (lessK k [g.id])) → Calls Tryz.prog 125 #[.agg #[.int .i64 (marksN k), u], .pointer (some ⟨w.heap.size + 1, 0, none⟩), .pointer (some ⟨w.heap.size + 1 + 1, 0, none⟩), .pointer (some ⟨k1, 0, none⟩)] W fun e W' => e = .returned (.bool (otherB k x y (lessK k [g.id]))) ∧ Below W.heap.size W W' := fun W u g _ hb hT => by
        have h := rests1_c (lessK k [g.id]) (mN k) x y u M B (w.heap.size + 1) (w.heap.size + 1 + 1) k1 W ((hb.block _ (size_of_block q1)).trans q1) ((hb.block _ (size_of_block q2)).trans q2) ((hb.block _ (size_of_block r5)).trans r5) hT (less_right HR.out _) rfl hx hy (less_can (canB_true.1 hcc) _)
        have e1 : (dst (tiesL (lessK k [g.id])) x y != M y) = otherB k x y (lessK k [g.id]) := by
          unfold otherB
          rw [hds, Bool.eq_iff_iff]
          simp
        rw [e1] at h
        exact h
      have HN := Lib.hid (needed3_c k (.agg #[.int .i64 k.room, .int .i64 k.per, .slice A1 k.ls.length c1, .slice A2 k.ds.length c2, .slice A3 k.ws.length c3]) 125 (.pointer (some ⟨w.heap.size + 1, 0, none⟩)) (.pointer (some ⟨w.heap.size + 1 + 1, 0, none⟩)) (.pointer (some ⟨k1, 0, none⟩)) (otherB k x y) W5 hk HR.out (enters_of Tryz.func125 (by kernel_rfl) rfl) hq)
      clear hq hds hs hcc hk
      have y0 := Joins.cell_of_block q0 0
      have y1 := Joins.cell_of_block q0 1
      have y2 := Joins.cell_of_block q0 2
      have y3 := Joins.cell_of_block q0 3
      have y4 := Joins.cell_of_block q0 4
      have zq := size_of_block q0
      go_wp2_with fail
      refine HN.out.mono ?_
      rintro e W9 ⟨u9, rfl, ho9, hb9⟩
      have qb9 := below_then qb hb9
      have ho := own_less ho9 qb.size
      clear HN hb9 ho9 qb q0 q1 q2 r5 y0 y1 y2 y3 y4 zq
      go_wp2_with fail
      refine bodyPost_ret (v := .tuple #[u9, .int .i64 0]) ?_ rfl ⟨u9, by rw [HCL.out], by rw [HLE.out]; exact ho, qb9⟩
      simp [results, Tryz.results54, go_sem]
    · have HCL := Lib.hid (show (mostE k x y).2 = 9 by rw [HME.out, if_neg (by simp [hcc])])
      have HLE := Lib.hid (show restsL k x y = [] by unfold restsL; rw [HCL.out]; rfl)
      have d5 : (loose != -1) = true := by simpa using hl
      clear hcc hl hk r5
      go_wp2_with fail
      refine bodyPost_ret (v := .tuple #[.slice none 0 0, .int .i64 9]) ?_ rfl ⟨_, by rw [HCL.out], by rw [HLE.out]; exact World.ownsRow_nil _ _ _ _, qb⟩
      simp [results, Tryz.results54, go_sem]
  · have d0 : (marksI k fr to != 0) = true := by simpa using h0
    have HCL := Lib.hid (show (mostE k fr to).2 = marksI k fr to by unfold mostE; rw [if_pos h0])
    have HLE := Lib.hid (show restsL k fr to = [] by unfold restsL; rw [HCL.out, if_neg h0])
    clear h0 hk
    go_wp2_with fail
    refine bodyPost_ret (v := .tuple #[.slice none 0 0, .int .i64 (marksI k fr to)]) ?_ rfl ⟨_, by rw [HCL.out], by rw [HLE.out]; exact World.ownsRow_nil _ _ _ _, qb⟩
    simp [results, Tryz.results54, go_sem]
end Go.Proofs.YtnedcclmfokdnaaGreat
