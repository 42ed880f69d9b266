/- FireAnyOrder: with the looks turned, Ends, Clash and Suspects tell the same (written by tools/genfanyorder.py). -/
import Derived.Test.YtmiglaeabpaofaaZFLawK
namespace Go.Proofs.Ytmiglaeabpaofaa
open Go Go.RowKit Go.Shelf
attribute [local go_sem] Oper.semAt_some Rel RelAt RelUpon
set_option maxRecDepth 100000 in
set_option maxHeartbeats 4000000 in
theorem FireAnyOrder_no (f : Fi) (A : Option Addr) (n cap : Nat) (u : Int) (p : Spt) (w : World) (h : fewB n = false) : Calls Try.prog 8 #[fiV f (.slice A n cap), .int .u8 u, sV p] w fun e w' => e = .returned (.bool true) ∧ Below w.heap.size w w' := by
  unfold fiV sV
  go_enter Try.func8, Try.ntmps8
  obtain ⟨bf, bp, -, HB⟩ := two_new' w (.cells #[.int .i64 f.rise, .int .i64 f.fall, .int .i64 f.up, .int .i64 f.down, .slice A n cap] 24) (.cells #[.int .i64 p.foot, .int .i64 p.hour] 42)
  go_wp2_with fail
  generalize ((w.alloc (.cells #[.int .i64 f.rise, .int .i64 f.fall, .int .i64 f.up, .int .i64 f.down, .slice A n cap] 24)).alloc (.cells #[.int .i64 p.foot, .int .i64 p.hour] 42)) = w1 at bf bp HB  ⊢
  have hB := HB
  clear HB
  refine (few_c f A n cap _).mono ?_
  rintro e w2 ⟨rfl, hF⟩
  replace bf := (hF.block _ (size_of_block bf)).trans bf
  replace bp := (hF.block _ (size_of_block bp)).trans bp
  replace hB := below_then hB hF
  clear hF
  rw [h]
  go_wp2_with fail
  refine (sanity_c _).mono ?_
  rintro e w3 ⟨rfl, hF⟩
  replace bf := (hF.block _ (size_of_block bf)).trans bf
  replace bp := (hF.block _ (size_of_block bp)).trans bp
  replace hB := below_then hB hF
  clear hF
  go_wp2_with fail
  go_ret
  exact ⟨rfl, hB⟩
set_option maxRecDepth 100000 in
set_option maxHeartbeats 8000000 in
theorem FireAnyOrder_w (f : Fi) (vl : Value) (t : Nat) (p : Spt) (w : World) (hk : Lks w w.heap.size vl f.ls) (ht : t ≤ 255) : Calls Try.prog 8 #[fiV f vl, .int .u8 t, sV p] w fun e w' => e = .returned (.bool true) ∧ Below w.heap.size w w' := by
  obtain ⟨A, cap, rfl, -, -, hat⟩ := hk.open_
  have HK := Lib.hid hk
  have HAT := Lib.hid hat
  clear hat
  cases hfew : fewB f.ls.length with
  | false => exact FireAnyOrder_no f A _ cap t p w hfew
  | true =>
  have hfew := Lib.hid hfew
  unfold fiV sV
  go_enter Try.func8, Try.ntmps8
  obtain ⟨bf, bp, -, HB⟩ := two_new' w (.cells #[.int .i64 f.rise, .int .i64 f.fall, .int .i64 f.up, .int .i64 f.down, .slice A f.ls.length cap] 24) (.cells #[.int .i64 p.foot, .int .i64 p.hour] 42)
  go_wp2_with fail
  generalize ((w.alloc (.cells #[.int .i64 f.rise, .int .i64 f.fall, .int .i64 f.up, .int .i64 f.down, .slice A f.ls.length cap] 24)).alloc (.cells #[.int .i64 p.foot, .int .i64 p.hour] 42)) = w1 at bf bp HB  ⊢
  replace hk := hk.later HB
  have hB := HB
  clear HB
  refine (few_c f A f.ls.length cap _).mono ?_
  rintro e w2 ⟨rfl, hF⟩
  replace bf := (hF.block _ (size_of_block bf)).trans bf
  replace bp := (hF.block _ (size_of_block bp)).trans bp
  replace hk := hk.later hF
  replace hB := below_then hB hF
  clear hF
  rw [hfew.out]
  have cbf0 := Joins.cell_of_block bf 0
  have cbf1 := Joins.cell_of_block bf 1
  have cbf2 := Joins.cell_of_block bf 2
  have cbf3 := Joins.cell_of_block bf 3
  have cbf4 := Joins.cell_of_block bf 4
  go_wp2_with fail
  refine (Check_c f (fiV f (.slice A f.ls.length cap)) w2 ⟨_, rfl, hk⟩).mono ?_
  rintro e w3 ⟨rfl, hF⟩
  clear cbf0 cbf1 cbf2 cbf3 cbf4
  replace bf := (hF.block _ (size_of_block bf)).trans bf
  replace bp := (hF.block _ (size_of_block bp)).trans bp
  replace hk := hk.later hF
  replace hB := below_then hB hF
  clear hF
  by_cases hf : fireI f = 0
  rotate_left
  · have d1 : (fireI f != 0) = true := by simpa using hf
    clear hf
    go_wp2_with fail
    refine (sanity_c _).mono ?_
    rintro e w4 ⟨rfl, hF⟩
    replace bf := (hF.block _ (size_of_block bf)).trans bf
    replace bp := (hF.block _ (size_of_block bp)).trans bp
    replace hk := hk.later hF
    replace hB := below_then hB hF
    clear hF
    go_wp2_with fail
    go_ret
    exact ⟨rfl, hB⟩
  · have ok := fire_ok hf
    have HF := Lib.hid hf
    have HOK := Lib.hid ok
    have hlen := ok.len
    rw [hf]
    clear hf ok
    have hzo : w.heap.size + 1 < w3.heap.size := size_of_block bp
    have cbf0 := Joins.cell_of_block bf 0
    have cbf1 := Joins.cell_of_block bf 1
    have cbf2 := Joins.cell_of_block bf 2
    have cbf3 := Joins.cell_of_block bf 3
    have cbf4 := Joins.cell_of_block bf 4
    have bo := heap_alloc_new w3 (.cells #[.int .i64 f.rise, .int .i64 f.fall, .int .i64 f.up, .int .i64 f.down, .slice none 0 0] 24)
    have HB := below_alloc w3 (.cells #[.int .i64 f.rise, .int .i64 f.fall, .int .i64 f.up, .int .i64 f.down, .slice none 0 0] 24)
    go_wp2_with fail
    clear cbf0 cbf1 cbf2 cbf3 cbf4
    generalize (w3.alloc (.cells #[.int .i64 f.rise, .int .i64 f.fall, .int .i64 f.up, .int .i64 f.down, .slice none 0 0] 24)) = w4 at bo HB  ⊢
    replace bf := (HB.block _ (size_of_block bf)).trans bf
    replace bp := (HB.block _ (size_of_block bp)).trans bp
    replace hk := hk.later HB
    replace hB := below_then hB HB
    clear HB
    obtain ⟨i0, hi, hz0, hz1, hz2⟩ := info_parts Try.infoLk
    have HI := Lib.hid hi
    have HI0 := Lib.hid hz0
    have HI1 := Lib.hid hz1
    have HI2 := Lib.hid hz2
    clear hi hz0 hz1 hz2
    
    clear hk
    go_loopw [8] (fun i wr => ∃ (j : Nat) (v : Value), j ≤ f.ls.length ∧ i = .int .i64 j ∧ wr.heap[w3.heap.size]? = some (.cells #[.int .i64 f.rise, .int .i64 f.fall, .int .i64 f.up, .int .i64 f.down, v] 24) ∧ wr.ownsRow w.heap.size 55 5 v j ((rotF f.ls t j).flatMap lkC) ∧ wr.heap[w.heap.size]? = some (.cells #[.int .i64 f.rise, .int .i64 f.fall, .int .i64 f.up, .int .i64 f.down, .slice A f.ls.length cap] 24) ∧ wr.heap[w.heap.size + 1]? = some (.cells #[.int .i64 p.foot, .int .i64 p.hour] 42) ∧ Below w.heap.size w wr) (fun i _ => f.ls.length - (intOf i).toNat)
    case atStart => exact ⟨0, _, Nat.zero_le _, rfl, bo, World.ownsRow_nil _ _ _ _, bf, bp, hB⟩
    case round =>
      clear bo bf bp hB
      obtain ⟨j, v, hj, rfl, bo, hO, bf, bp, hB⟩ := hrel
      obtain ⟨Av, capv, rfl⟩ := own_form hO
      have hsz := hB.size
      have cf4 := Joins.cell_of_block bf 4
      have co4 := Joins.cell_of_block bo 4
      have zf := size_of_block bf
      have zo := size_of_block bo
      by_cases hlt : j < f.ls.length
      · have hn0 : 0 < f.ls.length := by omega
        obtain ⟨m, hm⟩ : ∃ m, m = (j + t) % f.ls.length := ⟨_, rfl⟩
        have hmlt : m < f.ls.length := by rw [hm]; exact Nat.mod_lt _ hn0
        obtain ⟨b, off, x, rfl, hb, hx0, d0, d1, d2, d3, d4⟩ := HAT.out m hmlt
        replace d0 := (hB.cell (p := ⟨b, off + m * 5, none⟩) hb).trans d0
        replace d1 := (hB.cell (p := ⟨b, off + m * 5 + 1, none⟩) hb).trans d1
        replace d2 := (hB.cell (p := ⟨b, off + m * 5 + 2, none⟩) hb).trans d2
        replace d3 := (hB.cell (p := ⟨b, off + m * 5 + 3, none⟩) hb).trans d3
        replace d4 := (hB.cell (p := ⟨b, off + m * 5 + 4, none⟩) hb).trans d4
        have hzb : b < wr.heap.size := Nat.lt_of_lt_of_le hb hsz
        have HS := Lib.hid (rot_snoc f.ls t j (x := x) (by rw [← hm]; exact hx0))
        have hrem : ((j : Int) + t).tmod f.ls.length = m := by rw [hm, Int.natCast_emod, Int.natCast_add]; exact Int.tmod_eq_emod_of_nonneg (by omega)
        have hw1 : IntKind.i64.wrap (t : Int) = t := by rw [IntKind.wrap_i64]; omega
        have hw2 : IntKind.i64.wrap ((j : Int) + t) = (j : Int) + t := by rw [IntKind.wrap_i64]; omega
        have hm1 : (m : Int) < f.ls.length := by omega
        have hn1 : f.ls ≠ [] := by intro h; rw [h] at hn0; simp at hn0
        clear hm hx0
        go_wp2_with fail
        refine wp_region_looseM [] [0, 1, 2, 3, 4, 5, 6, 7, 8, 9, 10, 11, 12, 13] (.one 14 .done) [] [] [15, 16, 17] [] [] (by kernel_rfl) (by kernel_rfl) (by intro c a d v w h; cases d <;> exact h) (by intro c a d v w h; cases d <;> exact h) rfl (fun r i h => by simp at h) ?_
        simp only [pick, List.filterMap_cons, List.filterMap_nil, List.getElem?_toArray, List.getElem?_cons_succ, List.getElem?_cons_zero]
        intro u hu
        clear cf4 co4
        have tf := (hu.block _ zf).trans bf
        have to_ := (hu.block _ zo).trans bo
        have ztf := size_of_block tf
        have zto := size_of_block to_
        have cf4 := Joins.cell_of_block tf 4
        have co4 := Joins.cell_of_block to_ 4
        have e0 := (hu.cell (p := ⟨b, off + m * 5, none⟩) hzb).trans d0
        have e1 := (hu.cell (p := ⟨b, off + m * 5 + 1, none⟩) hzb).trans d1
        have e2 := (hu.cell (p := ⟨b, off + m * 5 + 2, none⟩) hzb).trans d2
        have e3 := (hu.cell (p := ⟨b, off + m * 5 + 3, none⟩) hzb).trans d3
        have e4 := (hu.cell (p := ⟨b, off + m * 5 + 4, none⟩) hzb).trans d4
        have hzu : b < u.heap.size := Nat.lt_of_lt_of_le hzb hu.size
        clear d0 d1 d2 d3 d4
        have hcg : ∀ (g : Gr u) b o, b < u.heap.size → g.val.cell? ⟨b, o, none⟩ = u.cell? ⟨b, o, none⟩ := fun g b o h => (bcell g.b).1 b o h
        iterate 14 (refine wpRel_step (fun K hK => ?_); go_simp; refine hK _ ?_; clear hK K)
        refine wpRel_nil fun V0 hb0 => ?_
        clear hcg cf4 co4 e0 e1 e2 e3 e4 ztf zto tf to_ hzu hzb hrem hn1 hw1 hw2 hm1
        have D0 := below_then hu hb0
        refine wpTr_step rfl rfl fun K hK => ?_
        go_simp
        refine hK _ _ (below_alloc _ _) fun V1 hu1 => ?_
        clear hK K
        have yn := (hu1.block _ (by simp)).trans (heap_alloc_new V0 (.cells #[.int .i64 x.id, .int .i64 x.foot, .int .i64 x.hour, .int .i64 x.lo, .int .i64 x.hi] 55))
        have D1 := below_then D0 (below_then (below_alloc V0 (.cells #[.int .i64 x.id, .int .i64 x.foot, .int .i64 x.hour, .int .i64 x.lo, .int .i64 x.hi] 55)) hu1)
        have tf := (D1.block _ zf).trans bf
        have to_ := (D1.block _ zo).trans bo
        have tp := (D1.block _ (size_of_block bp)).trans bp
        have tO := own_below hO D1
        have tB := below_then hB D1
        have hl40 : f.ls.length ≤ 24 := hlen
        clear D0 D1 hu hb0 hu1 bf bo bp hO hB
        show wpPure _ _ _ _
        intro ks hks _ _
        obtain rfl : ks = [] := List.length_eq_zero_iff.1 hks
        clear hks
        show wpList _ _ _ _ _ _
        simp only [deco]
        refine wpList_append_own _ rfl (.tmp 44) (.tmp 57) 22 rfl w.heap.size 55 i0 (.agg #[.int .i64 0, .int .i64 0, .int .i64 0, .int .i64 0, .int .i64 0]) 5 40 Try.underlying22 HI.out HI0.out HI1.out HI2.out rfl (by decide) _ _ _ rfl tO ⟨_, 0, none⟩ 1 1 #[.int .i64 x.id, .int .i64 x.foot, .int .i64 x.hour, .int .i64 x.lo, .int .i64 x.hi].toList rfl rfl ?c1 ?c2 ?c3 ?c4 ?c5 ?_
        case c1 =>
          intro j u hj
          have h9 := Joins.cell_of_block yn j
          rw [← Array.getElem?_toList, hj] at h9
          by_cases h0 : j = 0
          · subst h0; simpa [Addr.add] using h9
          · simpa [Addr.add, h0] using h9
        case c2 => intro u hu; simp at hu; rcases hu with rfl | rfl | rfl | rfl | rfl <;> rfl
        case c3 => unfold maxLen; omega
        case c4 => omega
        case c5 => exact tB.size
        intro v4 W4 hown4 hgrow _
        have bf4 := (hgrow.block _ (size_of_block tf) (Ne.symm (own_ne_block tO tf (by decide)))).trans tf
        have bo4 := (hgrow.block _ (size_of_block to_) (Ne.symm (own_ne_block tO to_ (by decide)))).trans to_
        have bp4 := (hgrow.block _ (size_of_block tp) (Ne.symm (own_ne_block tO tp (by decide)))).trans tp
        have hB4 := below_own tB tB.size tO hgrow
        clear hgrow tO tB tf to_ tp yn
        have f4 := Joins.unfrozen_of_block bo4 4
        have s4 := Joins.cell_of_block bo4 4
        have zo4 := size_of_block bo4
        have bo5 := Joins.block_setCell (i := 4) bo4 v4
        have bf5 := (put_other (i := 4) v4 (show w.heap.size ≠ w3.heap.size by omega)).trans bf4
        have bp5 := (put_other (i := 4) v4 (show w.heap.size + 1 ≠ w3.heap.size by omega)).trans bp4
        have hO5 := own_setCell hown4 4 v4 (own_ne_block hown4 bo4 (by decide))
        have hB5 := below_set (i := 4) (v := v4) hB4 (show w.heap.size ≤ w3.heap.size by omega)
        obtain ⟨Ar, capr, rfl⟩ := own_form hown4
        clear hown4 bf4 bo4 bp4 hB4
        show wpList _ _ _ _ _ _
        go_wp2_with fail
        go_roundw
        case rel =>
          refine ⟨j + 1, _, by omega, by go_num, by simpa using bo5, ?_, bf5, bp5, hB5⟩
          rw [HS.out, List.flatMap_append]
          simpa [lkC] using hO5
        case measure => simp [intOf]; omega
      · obtain rfl : j = f.ls.length := by omega
        clear cf4 co4 zf zo
        have hk := HK.out.later hB
        have hperm := rot_perm f.ls t
        have hko : Lks wr wr.heap.size (.slice Av f.ls.length capv) (rotF f.ls t f.ls.length) := Sl.of_own (l := rotF f.ls t f.ls.length) lkC_len (by rw [rot_len]; exact hO) (by rw [rot_len]; omega)
        have hturn := turned HOK.out hperm p
        have ok2 := fire_perm HOK.out hperm
        have hsl := susp_len HOK.out
        generalize rotF f.ls t f.ls.length = L2 at hko hturn ok2
        clear hO hperm
        obtain ⟨R, hR⟩ : ∃ r, r = endsR f p := ⟨_, rfl⟩
        obtain ⟨E, hE⟩ : ∃ r, r = endsE f p := ⟨_, rfl⟩
        obtain ⟨C, hC⟩ : ∃ r, r = clashR f := ⟨_, rfl⟩
        obtain ⟨L, hL⟩ : ∃ r, r = suspR f := ⟨_, rfl⟩
        have x1 := fun W h => Ends_c f (.slice A f.ls.length cap) p W h
        have x2 := fun W h => Ends_c (withF f L2) (.slice Av f.ls.length capv) p W h
        have x3 := fun W h => Clash_c f (.slice A f.ls.length cap) W h
        have x4 := fun W h => Clash_c (withF f L2) (.slice Av f.ls.length capv) W h
        have x5 := fun W h => Suspects_c f (.slice A f.ls.length cap) W h
        have x6 := fun W h => Suspects_c (withF f L2) (.slice Av f.ls.length capv) W h
        rw [← hR, ← hE] at x1
        rw [hturn.1, hturn.2.1, ← hR, ← hE] at x2
        rw [HF.out, ← hC] at x3
        rw [ok_fire ok2, hturn.2.2.1, ← hC] at x4
        rw [HF.out, ← hL] at x5
        rw [ok_fire ok2, hturn.2.2.2, ← hL] at x6
        rw [← hL] at hsl
        clear hR hE hC hL hturn ok2
        obtain ⟨ca, cb, ci⟩ := C
        simp only at x3 x4
        have X1 := Lib.hid x1
        have X2 := Lib.hid x2
        have X3 := Lib.hid x3
        have X4 := Lib.hid x4
        have X5 := Lib.hid x5
        have X6 := Lib.hid x6
        clear x1 x2 x3 x4 x5 x6
        have cbf0 := Joins.cell_of_block bf 0
        have cbf1 := Joins.cell_of_block bf 1
        have cbf2 := Joins.cell_of_block bf 2
        have cbf3 := Joins.cell_of_block bf 3
        have cbf4 := Joins.cell_of_block bf 4
        have cbp0 := Joins.cell_of_block bp 0
        have cbp1 := Joins.cell_of_block bp 1
        go_wp2_with fail
        refine (X1.out wr hk).mono ?_
        rintro e w1 ⟨rfl, hF⟩
        clear cbf0 cbf1 cbf2 cbf3 cbf4 cbp0 cbp1
        replace bf := (hF.block _ (size_of_block bf)).trans bf
        replace bp := (hF.block _ (size_of_block bp)).trans bp
        replace bo := (hF.block _ (size_of_block bo)).trans bo
        replace hk := hk.later hF
        replace hko := hko.later hF
        replace hB := below_then hB hF
        clear hF
        unfold bndV
        have b1 := heap_alloc_new w1 (.cells #[.int .i64 R.lo, .int .i64 R.hi, .int .i64 R.low, .int .i64 R.high] 38)
        have HB := below_alloc w1 (.cells #[.int .i64 R.lo, .int .i64 R.hi, .int .i64 R.low, .int .i64 R.high] 38)
        have cbo0 := Joins.cell_of_block ((HB.block _ (size_of_block bo)).trans bo) 0
        have cbo1 := Joins.cell_of_block ((HB.block _ (size_of_block bo)).trans bo) 1
        have cbo2 := Joins.cell_of_block ((HB.block _ (size_of_block bo)).trans bo) 2
        have cbo3 := Joins.cell_of_block ((HB.block _ (size_of_block bo)).trans bo) 3
        have cbo4 := Joins.cell_of_block ((HB.block _ (size_of_block bo)).trans bo) 4
        have cbp0 := Joins.cell_of_block ((HB.block _ (size_of_block bp)).trans bp) 0
        have cbp1 := Joins.cell_of_block ((HB.block _ (size_of_block bp)).trans bp) 1
        go_wp2_with fail
        generalize (w1.alloc (.cells #[.int .i64 R.lo, .int .i64 R.hi, .int .i64 R.low, .int .i64 R.high] 38)) = w2 at b1 HB cbo0 cbo1 cbo2 cbo3 cbo4 cbp0 cbp1 ⊢
        replace bf := (HB.block _ (size_of_block bf)).trans bf
        replace bp := (HB.block _ (size_of_block bp)).trans bp
        replace bo := (HB.block _ (size_of_block bo)).trans bo
        replace hk := hk.later HB
        replace hko := hko.later HB
        replace hB := below_then hB HB
        clear HB
        refine (X2.out w2 hko).mono ?_
        rintro e w3 ⟨rfl, hF⟩
        clear cbo0 cbo1 cbo2 cbo3 cbo4 cbp0 cbp1
        replace bf := (hF.block _ (size_of_block bf)).trans bf
        replace bp := (hF.block _ (size_of_block bp)).trans bp
        replace bo := (hF.block _ (size_of_block bo)).trans bo
        replace b1 := (hF.block _ (size_of_block b1)).trans b1
        replace hk := hk.later hF
        replace hko := hko.later hF
        replace hB := below_then hB hF
        clear hF
        unfold bndV
        have b2 := heap_alloc_new w3 (.cells #[.int .i64 R.lo, .int .i64 R.hi, .int .i64 R.low, .int .i64 R.high] 38)
        have HB := below_alloc w3 (.cells #[.int .i64 R.lo, .int .i64 R.hi, .int .i64 R.low, .int .i64 R.high] 38)
        have cbf0 := Joins.cell_of_block ((HB.block _ (size_of_block bf)).trans bf) 0
        have cbf1 := Joins.cell_of_block ((HB.block _ (size_of_block bf)).trans bf) 1
        have cbf2 := Joins.cell_of_block ((HB.block _ (size_of_block bf)).trans bf) 2
        have cbf3 := Joins.cell_of_block ((HB.block _ (size_of_block bf)).trans bf) 3
        have cbf4 := Joins.cell_of_block ((HB.block _ (size_of_block bf)).trans bf) 4
        go_wp2_with fail
        generalize (w3.alloc (.cells #[.int .i64 R.lo, .int .i64 R.hi, .int .i64 R.low, .int .i64 R.high] 38)) = w4 at b2 HB cbf0 cbf1 cbf2 cbf3 cbf4 ⊢
        replace bf := (HB.block _ (size_of_block bf)).trans bf
        replace bp := (HB.block _ (size_of_block bp)).trans bp
        replace bo := (HB.block _ (size_of_block bo)).trans bo
        replace b1 := (HB.block _ (size_of_block b1)).trans b1
        replace hk := hk.later HB
        replace hko := hko.later HB
        replace hB := below_then hB HB
        clear HB
        refine (X3.out w4 hk).mono ?_
        rintro e w5 ⟨rfl, hF⟩
        clear cbf0 cbf1 cbf2 cbf3 cbf4
        replace bf := (hF.block _ (size_of_block bf)).trans bf
        replace bp := (hF.block _ (size_of_block bp)).trans bp
        replace bo := (hF.block _ (size_of_block bo)).trans bo
        replace b1 := (hF.block _ (size_of_block b1)).trans b1
        replace b2 := (hF.block _ (size_of_block b2)).trans b2
        replace hk := hk.later hF
        replace hko := hko.later hF
        replace hB := below_then hB hF
        clear hF
        have cbo0 := Joins.cell_of_block bo 0
        have cbo1 := Joins.cell_of_block bo 1
        have cbo2 := Joins.cell_of_block bo 2
        have cbo3 := Joins.cell_of_block bo 3
        have cbo4 := Joins.cell_of_block bo 4
        go_wp2_with fail
        refine (X4.out w5 hko).mono ?_
        rintro e w6 ⟨rfl, hF⟩
        clear cbo0 cbo1 cbo2 cbo3 cbo4
        replace bf := (hF.block _ (size_of_block bf)).trans bf
        replace bp := (hF.block _ (size_of_block bp)).trans bp
        replace bo := (hF.block _ (size_of_block bo)).trans bo
        replace b1 := (hF.block _ (size_of_block b1)).trans b1
        replace b2 := (hF.block _ (size_of_block b2)).trans b2
        replace hk := hk.later hF
        replace hko := hko.later hF
        replace hB := below_then hB hF
        clear hF
        have cbf0 := Joins.cell_of_block bf 0
        have cbf1 := Joins.cell_of_block bf 1
        have cbf2 := Joins.cell_of_block bf 2
        have cbf3 := Joins.cell_of_block bf 3
        have cbf4 := Joins.cell_of_block bf 4
        go_wp2_with fail
        refine (X5.out w6 hk).mono ?_
        rintro e w7 ⟨s1, rfl, hs1, hF⟩
        clear cbf0 cbf1 cbf2 cbf3 cbf4
        replace bf := (hF.block _ (size_of_block bf)).trans bf
        replace bp := (hF.block _ (size_of_block bp)).trans bp
        replace bo := (hF.block _ (size_of_block bo)).trans bo
        replace b1 := (hF.block _ (size_of_block b1)).trans b1
        replace b2 := (hF.block _ (size_of_block b2)).trans b2
        replace hk := hk.later hF
        replace hko := hko.later hF
        replace hB := below_then hB hF
        clear hF
        have cbo0 := Joins.cell_of_block bo 0
        have cbo1 := Joins.cell_of_block bo 1
        have cbo2 := Joins.cell_of_block bo 2
        have cbo3 := Joins.cell_of_block bo 3
        have cbo4 := Joins.cell_of_block bo 4
        go_wp2_with fail
        refine (X6.out w7 hko).mono ?_
        rintro e w8 ⟨s2, rfl, hs2, hF⟩
        clear cbo0 cbo1 cbo2 cbo3 cbo4
        replace bf := (hF.block _ (size_of_block bf)).trans bf
        replace bp := (hF.block _ (size_of_block bp)).trans bp
        replace bo := (hF.block _ (size_of_block bo)).trans bo
        replace b1 := (hF.block _ (size_of_block b1)).trans b1
        replace b2 := (hF.block _ (size_of_block b2)).trans b2
        replace hk := hk.later hF
        replace hko := hko.later hF
        replace hs1 := own_below hs1 hF
        replace hB := below_then hB hF
        clear hF
        go_wp2_with fail
        refine (sanity_c w8).mono ?_
        rintro e w9 ⟨rfl, hF⟩
        replace bf := (hF.block _ (size_of_block bf)).trans bf
        replace bp := (hF.block _ (size_of_block bp)).trans bp
        replace bo := (hF.block _ (size_of_block bo)).trans bo
        replace b1 := (hF.block _ (size_of_block b1)).trans b1
        replace b2 := (hF.block _ (size_of_block b2)).trans b2
        replace hk := hk.later hF
        replace hko := hko.later hF
        replace hs1 := own_below hs1 hF
        replace hs2 := own_below hs2 hF
        replace hB := below_then hB hF
        clear hF
        have heq := Try.eqBd
        have cb10 := Joins.cell_of_block b1 0
        have cb11 := Joins.cell_of_block b1 1
        have cb12 := Joins.cell_of_block b1 2
        have cb13 := Joins.cell_of_block b1 3
        have cb20 := Joins.cell_of_block b2 0
        have cb21 := Joins.cell_of_block b2 1
        have cb22 := Joins.cell_of_block b2 2
        have cb23 := Joins.cell_of_block b2 3
        go_wp2_with fail
        refine (sameI_t (Ints.of_own hs1 (by omega)) (Ints.of_own hs2 (by omega))).mono ?_
        rintro e w10 ⟨rfl, hF⟩
        clear cb10 cb11 cb12 cb13 cb20 cb21 cb22 cb23
        replace bf := (hF.block _ (size_of_block bf)).trans bf
        replace bp := (hF.block _ (size_of_block bp)).trans bp
        replace bo := (hF.block _ (size_of_block bo)).trans bo
        replace b1 := (hF.block _ (size_of_block b1)).trans b1
        replace b2 := (hF.block _ (size_of_block b2)).trans b2
        replace hk := hk.later hF
        replace hko := hko.later hF
        replace hs1 := own_below hs1 hF
        replace hs2 := own_below hs2 hF
        replace hB := below_then hB hF
        clear hF
        go_wp2_with fail
        go_ret
        exact ⟨rfl, hB⟩
end Go.Proofs.Ytmiglaeabpaofaa
