import Derived.Test.YtnedcclmfokdnaaGreatJ26
namespace Go.Proofs.YtnedcclmfokdnaaGreat
open Go Go.RowKit Go.Shelf
attribute [local go_sem] Oper.semAt_some Rel RelAt RelUpon
set_option maxRecDepth 100000 in
set_option maxHeartbeats 8000000 in
theorem needed0_c (k : Kl) (v : Value) (gf : Nat) (q : Kl → Bool) (w : World) (hv : Kiln w v k) (hR : Right k) (he : ∀ args w, (callFunc gf args).run Tryz.prog w = .ok (.enter gf args) w)
    (hq : ∀ W u (g : Wg), g ∈ k.ws → Below w.heap.size w W → TiesAt W W.heap.size u (tiesL (lessK k [g.id])) → Calls Tryz.prog gf #[.agg #[.int .i64 (marksN k), u]] W fun e W' => e = .returned (.bool (q (lessK k [g.id]))) ∧ Below W.heap.size W W') :
    Calls Tryz.prog 124 #[v, .func (.func gf) #[] #[]] w fun e w' => ∃ x, e = .returned x ∧ w'.ownsRow w.heap.size 3 1 x (sortI (needL k q k.ws.length)).length ((sortI (needL k q k.ws.length)).map (Value.int .i64)) ∧ Below w.heap.size w w' := by
  obtain ⟨A1, c1, A2, c2, A3, c3, rfl⟩ := kilnForm hv
  have q0 := heap_alloc_new w (.cells #[.int .i64 k.room, .int .i64 k.per, .slice A1 k.ls.length c1, .slice A2 k.ds.length c2, .slice A3 k.ws.length c3] 26)
  have qb := below_alloc w (.cells #[.int .i64 k.room, .int .i64 k.per, .slice A1 k.ls.length c1, .slice A2 k.ds.length c2, .slice A3 k.ws.length c3] 26)
  have HKB := Lib.hid hv.toB
  have hwg : Wgs w w.heap.size (.slice A3 k.ws.length c3) k.ws := by
    obtain ⟨al, ad, aw, e9, _, _, hw⟩ := hv
    obtain ⟨rfl, rfl, rfl⟩ : .slice A1 k.ls.length c1 = al ∧ .slice A2 k.ds.length c2 = ad ∧ .slice A3 k.ws.length c3 = aw := by simpa using e9
    exact hw
  obtain ⟨A, cap, hAA, _, hlen, hat⟩ := hwg.open_
  obtain ⟨rfl, rfl⟩ : A3 = A ∧ c3 = cap := by simpa using hAA
  have HAT := Lib.hid hat
  have HR := Lib.hid hR
  have HQ := Lib.hid hq
  have n3 := hR.ws
  obtain ⟨i0, hi, hz0, hz1, hz2⟩ := info_parts Tryz.infoIntT
  have HI := Lib.hid hi
  have HI0 := Lib.hid hz0
  have HI1 := Lib.hid hz1
  have HI2 := Lib.hid hz2
  clear hv hwg hAA hat hR hq hi hz0 hz1 hz2
  go_enter Tryz.func124, Tryz.ntmps124
  have y0 := Joins.cell_of_block q0 0
  have y1 := Joins.cell_of_block q0 1
  have y2 := Joins.cell_of_block q0 2
  have y3 := Joins.cell_of_block q0 3
  have y4 := Joins.cell_of_block q0 4
  go_wp2_with fail
  have hsz1 : (w.alloc (.cells #[.int .i64 k.room, .int .i64 k.per, .slice A1 k.ls.length c1, .slice A2 k.ds.length c2, .slice A3 k.ws.length c3] 26)).heap.size = w.heap.size + 1 := by simp
  generalize w.alloc _ = W1 at q0 y0 y1 y2 y3 y4 qb hsz1 ⊢
  clear y0 y1 y2 y3 y4
  have Q0 := Lib.hid q0
  have QB := Lib.hid qb
  clear q0 qb
  go_loopw [5, 11] (fun u5 n wr => ∃ j : Nat, j ≤ k.ws.length ∧ n = .int .i64 j ∧ wr.ownsRow W1.heap.size 3 1 u5 (needL k q j).length ((needL k q j).map (Value.int .i64)) ∧ Below W1.heap.size W1 wr) (fun _ n _ => k.ws.length - (intOf n).toNat)
  case atStart => exact ⟨0, Nat.zero_le _, rfl, by rw [need_zero]; exact World.ownsRow_nil _ _ _ _, Below.refl _ _⟩
  case round =>
    obtain ⟨j, hj, rfl, hO, hbw⟩ := hrel
    have q0 := (hbw.block _ (show w.heap.size < W1.heap.size by omega)).trans Q0.out
    have qb := below_then QB.out hbw
    by_cases hlt : j < k.ws.length
    · obtain ⟨b, off, x, rfl, hb, hx, c0, c1', c2', c3', c4', c5'⟩ := HAT.out j hlt
      have hxm := List.mem_of_getElem? hx
      have HX := Lib.hid hxm
      have HNS := Lib.hid (need_snoc (q := q) hx)
      have hcl := Lib.hid (lessN k q j)
      replace c0 := (qb.cell (p := ⟨b, off + j * 6, none⟩) hb).trans c0
      replace c1' := (qb.cell (p := ⟨b, off + j * 6 + 1, none⟩) hb).trans c1'
      replace c2' := (qb.cell (p := ⟨b, off + j * 6 + 2, none⟩) hb).trans c2'
      replace c3' := (qb.cell (p := ⟨b, off + j * 6 + 3, none⟩) hb).trans c3'
      replace c4' := (qb.cell (p := ⟨b, off + j * 6 + 4, none⟩) hb).trans c4'
      replace c5' := (qb.cell (p := ⟨b, off + j * 6 + 5, none⟩) hb).trans c5'
      clear hx hxm
      obtain ⟨r0, r1, rz, rb⟩ := two_new' wr (.cells #[.int .i64 x.id, .int .i64 x.kind, .int .i64 x.frm, .int .i64 x.too, .int .i64 x.lo, .int .i64 x.hi] 112) (.cells #[.int .i64 x.id] 3)
      have y0 := Joins.cell_of_block q0 0
      have y1 := Joins.cell_of_block q0 1
      have y2 := Joins.cell_of_block q0 2
      have y3 := Joins.cell_of_block q0 3
      have y4 := Joins.cell_of_block q0 4
      have zq := size_of_block q0
      go_wp2_with fail
      generalize (wr.alloc _).alloc _ = W3 at r0 r1 rz rb ⊢
      clear y0 y1 y2 y3 y4 zq q0 c0 c1' c2' c3' c4' c5' HAT hb
      have qb3 := below_then qb rb
      have hO3 := own_later hO rb
      have hb3 := below_then hbw rb
      refine (without_c k (.agg #[.int .i64 k.room, .int .i64 k.per, .slice A1 k.ls.length c1, .slice A2 k.ds.length c2, .slice (some ⟨b, off, none⟩) k.ws.length c3]) _ [x.id] W3 ((HKB.out.below qb3).kiln qb3.size) (ints_one r1) HR.out).mono ?_
      rintro e W4 ⟨kv, rfl, hkv, hF⟩
      replace r0 := (hF.block _ (size_of_block r0)).trans r0
      replace hO3 := own_later hO3 hF
      replace hb3 := below_grown hb3 (by have := hb3.size; omega) hF
      replace qb3 := below_then qb3 hF
      clear hF r1 hO hbw rb
      have HKV := Lib.hid hkv
      clear hkv
      go_wp2_with fail
      refine (netOf_d (lessK k [x.id]) kv W4 HKV.out (less_right HR.out _)).mono ?_
      rintro e W5 ⟨u, rfl, ⟨hT, _⟩, hF⟩
      replace r0 := (hF.block _ (size_of_block r0)).trans r0
      replace hO3 := own_later hO3 hF
      replace hb3 := below_grown hb3 (by have := hb3.size; omega) hF
      replace qb3 := below_then qb3 hF
      clear hF HKV
      have hqc := Lib.hid (HQ.out W5 u x HX.out qb3 hT)
      clear hT
      have hcb := Lib.hid he
      go_wp2_with fail
      refine (hqc.out).mono ?_
      rintro e W6 ⟨rfl, hF⟩
      replace r0 := (hF.block _ (size_of_block r0)).trans r0
      replace hO3 := own_later hO3 hF
      replace hb3 := below_grown hb3 (by have := hb3.size; omega) hF
      replace qb3 := below_then qb3 hF
      clear hF hqc hcb
      have c0 := Joins.cell_of_block r0 0
      have zr := size_of_block r0
      obtain ⟨t, ht⟩ : ∃ t, t = q (lessK k [x.id]) := ⟨_, rfl⟩
      rw [← ht] at HNS ⊢
      clear ht r0 qb3
      cases t with
      | true =>
        rw [if_pos rfl] at HNS
        have hbs := hb3.size
        have hl := hcl.out
        go_wp2_with (at_builtin; refine wpList_append_own _ rfl _ _ 27 rfl W1.heap.size 3 i0 (.int .i64 0) 1 8 Tryz.underlying27 HI.out HI0.out HI1.out HI2.out rfl (by decide) _ _ _ rfl (hO3.alloc _) ⟨W6.heap.size, 0, none⟩ 1 1 [.int .i64 x.id] rfl rfl (cell_one_new _ _ _) (one_oneCell rfl) ?c3 ?c4 ?c5 ?_)
        case c3 => unfold maxLen; omega
        case c4 => omega
        case c5 => simp; omega
        intro v' w2 hown' hgrow _
        have hB2 := below_append hb3 hbs hO3 hgrow
        clear hgrow hO3 c0 zr hb3 hbs
        go_wp2_with fail
        go_roundw
        case rel => exact ⟨j + 1, by omega, by go_num, by rw [hsz1, HNS.out, List.length_append, List.map_append]; exact hown', hB2⟩
        case measure => simp [intOf]; omega
      | false =>
        rw [if_neg (by decide)] at HNS
        clear c0 zr
        go_wp2_with fail
        go_roundw
        case rel => exact ⟨j + 1, by omega, by go_num, by rw [HNS.out, List.append_nil]; exact hO3, hb3⟩
        case measure => simp [intOf]; omega
    · obtain rfl : j = k.ws.length := by omega
      have hlq := lessN k q k.ws.length
      have hs := sortInts_c W1.heap.size u5 (needL k q k.ws.length) wr hO (by omega)
      have hB := Lib.hid (fun w9 (hg : wr.grownBy w9 u5.ownBlock) => below_own qb qb.size (own_less hO (show w.heap.size ≤ W1.heap.size by omega)) hg)
      have HS := Lib.hid hs
      clear hs HAT q0 qb hbw hO
      go_wp2_with fail
      refine HS.out.mono ?_
      rintro e w9 ⟨rfl, ho, hg⟩
      have hB9 := hB.out w9 hg
      clear hg HS hB
      go_wp2_with fail
      go_ret
      exact ⟨_, rfl, own_less ho (by omega), hB9⟩
end Go.Proofs.YtnedcclmfokdnaaGreat
