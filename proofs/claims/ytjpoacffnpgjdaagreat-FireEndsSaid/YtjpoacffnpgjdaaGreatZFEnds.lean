/- FireEnds: Ends, Rests and CheckEnds return what the reference returns (written by tools/genfends.py). -/
import Derived.Test.YtjpoacffnpgjdaaGreatJ21
import Derived.Test.YtjpoacffnpgjdaaGreatZFRefX
import Derived.Test.YtjpoacffnpgjdaaGreatZFRefAD
import Derived.Test.YtjpoacffnpgjdaaGreatJ17
import Derived.Test.YtjpoacffnpgjdaaGreatJ32
import Derived.Test.YtjpoacffnpgjdaaGreatJ20
namespace Go.Proofs.YtjpoacffnpgjdaaGreat
open Go Go.RowKit Go.Shelf
attribute [local go_sem] Oper.semAt_some Rel RelAt RelUpon
theorem restsR_len9 (f : Fi) (p : Spt) : (restsR f p).length ≤ f.ls.length := by
  unfold restsR
  split
  · exact idsI_len _ _
  · simp
theorem sameInts_t (u v : Value) (l : List Int) (w : World) (hu : Ints w w.heap.size u l) (hv : Ints w w.heap.size v l) :
    Calls Tryz.prog 22 #[u, v] w fun e w' => e = .returned (.bool true) ∧ Below w.heap.size w w' := by
  have h := sameInts_c u v l l w hu hv
  rwa [decide_eq_true rfl] at h
set_option maxRecDepth 100000 in
set_option maxHeartbeats 8000000 in
theorem FireEnds_no (f : Fi) (A : Option Addr) (n cap : Nat) (p : Spt) (b : Bnd) (w : World) (h : fewB n = false) : Calls Tryz.prog 4 #[fiV f (.slice A n cap), sV p, bndV b] w fun e w' => e = .returned (.bool true) ∧ Below w.heap.size w w' := by
  unfold fiV sV bndV
  go_enter Tryz.func4, Tryz.ntmps4
  obtain ⟨bf, bp, bb, -, HB⟩ := three_new w (.cells #[.int .i64 f.rise, .int .i64 f.fall, .int .i64 f.up, .int .i64 f.down, .slice A n cap] 24) (.cells #[.int .i64 p.foot, .int .i64 p.hour] 26) (.cells #[.int .i64 b.lo, .int .i64 b.hi, .int .i64 b.low, .int .i64 b.high] 56)
  go_wp2_with fail
  generalize (((w.alloc (.cells #[.int .i64 f.rise, .int .i64 f.fall, .int .i64 f.up, .int .i64 f.down, .slice A n cap] 24)).alloc (.cells #[.int .i64 p.foot, .int .i64 p.hour] 26)).alloc (.cells #[.int .i64 b.lo, .int .i64 b.hi, .int .i64 b.low, .int .i64 b.high] 56)) = w1 at bf bp bb HB  ⊢
  have hB := HB
  clear HB
  refine (few_c f A n cap _).mono ?_
  rintro e w2 ⟨rfl, hF⟩
  replace bf := (hF.block _ (size_of_block bf)).trans bf
  replace bp := (hF.block _ (size_of_block bp)).trans bp
  replace bb := (hF.block _ (size_of_block bb)).trans bb
  replace hB := below_then hB hF
  clear hF
  rw [h]
  go_wp2_with fail
  refine (sanity_c _).mono ?_
  rintro e w3 ⟨rfl, hF⟩
  replace bf := (hF.block _ (size_of_block bf)).trans bf
  replace bp := (hF.block _ (size_of_block bp)).trans bp
  replace bb := (hF.block _ (size_of_block bb)).trans bb
  replace hB := below_then hB hF
  clear hF
  go_wp2_with fail
  go_ret
  exact ⟨rfl, hB⟩
set_option maxRecDepth 100000 in
set_option maxHeartbeats 8000000 in
theorem FireEnds_a (f : Fi) (A : Option Addr) (cap : Nat) (p : Spt) (b : Bnd) (w : World) (hk : Lks w w.heap.size (.slice A f.ls.length cap) f.ls) (hfew : fewB f.ls.length = true) : Calls Tryz.prog 4 #[fiV f (.slice A f.ls.length cap), sV p, bndV b] w fun e w' => e = .returned (.bool true) ∧ Below w.heap.size w w' := by
  have x1 := fun W h => Ends_c f (.slice A f.ls.length cap) p W h
  have x2 := fun W h => EndsR_c f (.slice A f.ls.length cap) p W h
  have x3 := fun W h => Rests_c f (.slice A f.ls.length cap) p W h
  have x4 := fun W h => RestsR_c f (.slice A f.ls.length cap) p W h
  have x5 := fun W h => CheckEnds_c f (.slice A f.ls.length cap) p b W h
  have x6 := fun W h => CheckEndsR_c f (.slice A f.ls.length cap) p b W h
  have r1 := restsR_len9 f p
  obtain ⟨_, _, _, _, hn9, _⟩ := Lks.open_ hk
  obtain ⟨⟨r0, r1_, r2, r3⟩, hR⟩ : ∃ e, e = endsR f p := ⟨_, rfl⟩
  rw [← hR] at x1 x2
  clear hR
  generalize endsE f p = E1 at x1 x2 x3 x4
  generalize restsR f p = L1 at x3 x4 r1
  generalize chkEndsI f p b = C1 at x5 x6
  unfold bndV at x1 x5 x6
  dsimp only at x1 x2
  unfold sV at x1 x2 x3 x4 x5 x6
  unfold fiV at x5 x6
  have HR1 := Lib.hid r1
  have HN9 := Lib.hid hn9
  clear r1 hn9
  have X1 := Lib.hid x1
  have X2 := Lib.hid x2
  have X3 := Lib.hid x3
  have X4 := Lib.hid x4
  have X5 := Lib.hid x5
  have X6 := Lib.hid x6
  clear x1 x2 x3 x4 x5 x6
  have HK := Lib.hid hk
  clear hk
  unfold fiV sV bndV
  go_enter Tryz.func4, Tryz.ntmps4
  obtain ⟨bf, bp, bb, -, HB⟩ := three_new w (.cells #[.int .i64 f.rise, .int .i64 f.fall, .int .i64 f.up, .int .i64 f.down, .slice A f.ls.length cap] 24) (.cells #[.int .i64 p.foot, .int .i64 p.hour] 26) (.cells #[.int .i64 b.lo, .int .i64 b.hi, .int .i64 b.low, .int .i64 b.high] 56)
  go_wp2_with fail
  generalize (((w.alloc (.cells #[.int .i64 f.rise, .int .i64 f.fall, .int .i64 f.up, .int .i64 f.down, .slice A f.ls.length cap] 24)).alloc (.cells #[.int .i64 p.foot, .int .i64 p.hour] 26)).alloc (.cells #[.int .i64 b.lo, .int .i64 b.hi, .int .i64 b.low, .int .i64 b.high] 56)) = w1 at bf bp bb HB  ⊢
  have hB := HB
  clear HB
  have hk := HK.out.later hB
  refine (few_c f A f.ls.length cap _).mono ?_
  rintro e w2 ⟨rfl, hF⟩
  replace bf := (hF.block _ (size_of_block bf)).trans bf
  replace bp := (hF.block _ (size_of_block bp)).trans bp
  replace bb := (hF.block _ (size_of_block bb)).trans bb
  replace hk := hk.later hF
  replace hB := below_then hB hF
  clear hF
  rw [hfew]
  have cbf0 := Joins.cell_of_block bf 0
  have cbf1 := Joins.cell_of_block bf 1
  have cbf2 := Joins.cell_of_block bf 2
  have cbf3 := Joins.cell_of_block bf 3
  have cbf4 := Joins.cell_of_block bf 4
  have cbp0 := Joins.cell_of_block bp 0
  have cbp1 := Joins.cell_of_block bp 1
  go_wp2_with fail
  refine (X1.out w2 hk).mono ?_
  rintro e w3 ⟨rfl, hF⟩
  clear cbf0 cbf1 cbf2 cbf3 cbf4 cbp0 cbp1
  replace bf := (hF.block _ (size_of_block bf)).trans bf
  replace bp := (hF.block _ (size_of_block bp)).trans bp
  replace bb := (hF.block _ (size_of_block bb)).trans bb
  replace hk := hk.later hF
  replace hB := below_then hB hF
  clear hF
  have ba := heap_alloc_new w3 (.cells #[.int .i64 r0, .int .i64 r1_, .int .i64 r2, .int .i64 r3] 56)
  have HB := below_alloc w3 (.cells #[.int .i64 r0, .int .i64 r1_, .int .i64 r2, .int .i64 r3] 56)
  have cbf0 := Joins.cell_of_block ((HB.block _ (size_of_block bf)).trans bf) 0
  have cbf1 := Joins.cell_of_block ((HB.block _ (size_of_block bf)).trans bf) 1
  have cbf2 := Joins.cell_of_block ((HB.block _ (size_of_block bf)).trans bf) 2
  have cbf3 := Joins.cell_of_block ((HB.block _ (size_of_block bf)).trans bf) 3
  have cbf4 := Joins.cell_of_block ((HB.block _ (size_of_block bf)).trans bf) 4
  have cbp0 := Joins.cell_of_block ((HB.block _ (size_of_block bp)).trans bp) 0
  have cbp1 := Joins.cell_of_block ((HB.block _ (size_of_block bp)).trans bp) 1
  go_wp2_with fail
  generalize (w3.alloc (.cells #[.int .i64 r0, .int .i64 r1_, .int .i64 r2, .int .i64 r3] 56)) = w4 at ba HB cbf0 cbf1 cbf2 cbf3 cbf4 cbp0 cbp1 ⊢
  replace bf := (HB.block _ (size_of_block bf)).trans bf
  replace bp := (HB.block _ (size_of_block bp)).trans bp
  replace bb := (HB.block _ (size_of_block bb)).trans bb
  replace hk := hk.later HB
  replace hB := below_then hB HB
  clear HB
  refine (X2.out w4 hk).mono ?_
  rintro e w5 ⟨rfl, hF⟩
  clear cbf0 cbf1 cbf2 cbf3 cbf4 cbp0 cbp1
  replace bf := (hF.block _ (size_of_block bf)).trans bf
  replace bp := (hF.block _ (size_of_block bp)).trans bp
  replace bb := (hF.block _ (size_of_block bb)).trans bb
  replace ba := (hF.block _ (size_of_block ba)).trans ba
  replace hk := hk.later hF
  replace hB := below_then hB hF
  clear hF
  have bu := heap_alloc_new w5 (.cells #[.int .i64 r0, .int .i64 r1_, .int .i64 r2, .int .i64 r3, .int .i64 E1] 60)
  have HB := below_alloc w5 (.cells #[.int .i64 r0, .int .i64 r1_, .int .i64 r2, .int .i64 r3, .int .i64 E1] 60)
  have cbf0 := Joins.cell_of_block ((HB.block _ (size_of_block bf)).trans bf) 0
  have cbf1 := Joins.cell_of_block ((HB.block _ (size_of_block bf)).trans bf) 1
  have cbf2 := Joins.cell_of_block ((HB.block _ (size_of_block bf)).trans bf) 2
  have cbf3 := Joins.cell_of_block ((HB.block _ (size_of_block bf)).trans bf) 3
  have cbf4 := Joins.cell_of_block ((HB.block _ (size_of_block bf)).trans bf) 4
  have cbp0 := Joins.cell_of_block ((HB.block _ (size_of_block bp)).trans bp) 0
  have cbp1 := Joins.cell_of_block ((HB.block _ (size_of_block bp)).trans bp) 1
  go_wp2_with fail
  generalize (w5.alloc (.cells #[.int .i64 r0, .int .i64 r1_, .int .i64 r2, .int .i64 r3, .int .i64 E1] 60)) = w6 at bu HB cbf0 cbf1 cbf2 cbf3 cbf4 cbp0 cbp1 ⊢
  replace bf := (HB.block _ (size_of_block bf)).trans bf
  replace bp := (HB.block _ (size_of_block bp)).trans bp
  replace bb := (HB.block _ (size_of_block bb)).trans bb
  replace ba := (HB.block _ (size_of_block ba)).trans ba
  replace hk := hk.later HB
  replace hB := below_then hB HB
  clear HB
  refine (X3.out w6 hk).mono ?_
  rintro e w7 ⟨s1, rfl, hs1, hF⟩
  clear cbf0 cbf1 cbf2 cbf3 cbf4 cbp0 cbp1
  replace bf := (hF.block _ (size_of_block bf)).trans bf
  replace bp := (hF.block _ (size_of_block bp)).trans bp
  replace bb := (hF.block _ (size_of_block bb)).trans bb
  replace ba := (hF.block _ (size_of_block ba)).trans ba
  replace bu := (hF.block _ (size_of_block bu)).trans bu
  replace hk := hk.later hF
  replace hB := below_then hB hF
  clear hF
  have hsa := Ints.of_own hs1 (by have := HR1.out; have := HN9.out; omega)
  clear hs1
  obtain ⟨Ahsa, chsa, rfl⟩ := Sl.form hsa
  have cbf0 := Joins.cell_of_block bf 0
  have cbf1 := Joins.cell_of_block bf 1
  have cbf2 := Joins.cell_of_block bf 2
  have cbf3 := Joins.cell_of_block bf 3
  have cbf4 := Joins.cell_of_block bf 4
  have cbp0 := Joins.cell_of_block bp 0
  have cbp1 := Joins.cell_of_block bp 1
  go_wp2_with fail
  refine (X4.out w7 hk).mono ?_
  rintro e w8 ⟨s2, rfl, hs2, hF⟩
  clear cbf0 cbf1 cbf2 cbf3 cbf4 cbp0 cbp1
  replace bf := (hF.block _ (size_of_block bf)).trans bf
  replace bp := (hF.block _ (size_of_block bp)).trans bp
  replace bb := (hF.block _ (size_of_block bb)).trans bb
  replace ba := (hF.block _ (size_of_block ba)).trans ba
  replace bu := (hF.block _ (size_of_block bu)).trans bu
  replace hk := hk.later hF
  replace hsa := hsa.later hF
  replace hB := below_then hB hF
  clear hF
  have hsb := Ints.of_own hs2 (by have := HR1.out; have := HN9.out; omega)
  clear hs2
  obtain ⟨Ahsb, chsb, rfl⟩ := Sl.form hsb
  have bw := heap_alloc_new w8 (.cells #[.slice Ahsb L1.length chsb, .int .i64 E1] 41)
  have HB := below_alloc w8 (.cells #[.slice Ahsb L1.length chsb, .int .i64 E1] 41)
  go_wp2_with fail
  generalize (w8.alloc (.cells #[.slice Ahsb L1.length chsb, .int .i64 E1] 41)) = w9 at bw HB  ⊢
  replace bf := (HB.block _ (size_of_block bf)).trans bf
  replace bp := (HB.block _ (size_of_block bp)).trans bp
  replace bb := (HB.block _ (size_of_block bb)).trans bb
  replace ba := (HB.block _ (size_of_block ba)).trans ba
  replace bu := (HB.block _ (size_of_block bu)).trans bu
  replace hk := hk.later HB
  replace hsa := hsa.later HB
  replace hsb := hsb.later HB
  replace hB := below_then hB HB
  clear HB
  have heq := fun W => Tryz.eqBd r0 r1_ r2 r3 r0 r1_ r2 r3 W
  simp only [beq_self_eq_true, Bool.and_self] at heq
  have cbf0 := Joins.cell_of_block bf 0
  have cbf1 := Joins.cell_of_block bf 1
  have cbf2 := Joins.cell_of_block bf 2
  have cbf3 := Joins.cell_of_block bf 3
  have cbf4 := Joins.cell_of_block bf 4
  have cbp0 := Joins.cell_of_block bp 0
  have cbp1 := Joins.cell_of_block bp 1
  have cbb0 := Joins.cell_of_block bb 0
  have cbb1 := Joins.cell_of_block bb 1
  have cbb2 := Joins.cell_of_block bb 2
  have cbb3 := Joins.cell_of_block bb 3
  have cba0 := Joins.cell_of_block ba 0
  have cba1 := Joins.cell_of_block ba 1
  have cba2 := Joins.cell_of_block ba 2
  have cba3 := Joins.cell_of_block ba 3
  have cbu0 := Joins.cell_of_block bu 0
  have cbu1 := Joins.cell_of_block bu 1
  have cbu2 := Joins.cell_of_block bu 2
  have cbu3 := Joins.cell_of_block bu 3
  have cbu4 := Joins.cell_of_block bu 4
  have cbw0 := Joins.cell_of_block bw 0
  have cbw1 := Joins.cell_of_block bw 1
  have zbf := size_of_block bf
  have zbp := size_of_block bp
  have zbb := size_of_block bb
  have zba := size_of_block ba
  have zbu := size_of_block bu
  have zbw := size_of_block bw
  have x5 := X5.out
  have x6 := X6.out
  go_wp2_with fail
  refine wp_region_grown (by kernel_rfl) (by kernel_rfl) fun hcg => ?_
  repeat (go_big_quiet_step (first | (go_at_call 9; exact Calls.grown (sanity_c _)) | (go_at_call 28; exact Calls.grown (x5 _ (hk.later (Gr.b _)))) | (go_at_call 29; exact Calls.grown (x6 _ (hk.later (Gr.b _)))) | (go_at_call 22; exact Calls.grown (sameInts_t _ _ L1 _ (hsa.later (Gr.b _)) (hsb.later (Gr.b _))))))
  refine wpQuiet_nil ?_
  intro _ hw'
  obtain ⟨g, hw''⟩ := hw'
  subst hw''
  have gb := g.b
  generalize g.val = wM at gb ⊢
  clear hcg cbf0 cbf1 cbf2 cbf3 cbf4 cbp0 cbp1 cbb0 cbb1 cbb2 cbb3 cba0 cba1 cba2 cba3 cbu0 cbu1 cbu2 cbu3 cbu4 cbw0 cbw1 zbf zbp zbb zba zbu zbw x5 x6 heq g
  replace hB := below_then hB gb
  clear gb
  go_wp2_with fail
  go_ret
  exact ⟨rfl, hB⟩
theorem FireEnds_w (f : Fi) (vl : Value) (p : Spt) (b : Bnd) (w : World) (hk : Lks w w.heap.size vl f.ls) : Calls Tryz.prog 4 #[fiV f vl, sV p, bndV b] w fun e w' => e = .returned (.bool true) ∧ Below w.heap.size w w' := by
  obtain ⟨A, cap, rfl⟩ := hk.form
  cases hfew : fewB f.ls.length with
  | false => exact FireEnds_no f A _ cap p b w hfew
  | true => exact FireEnds_a f A cap p b w hk hfew
end Go.Proofs.YtjpoacffnpgjdaaGreat
