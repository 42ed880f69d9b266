/- Texts joined: FHeadA FHead FLawK FShort FBurnR. -/
import Derived.Test.YtjpoacffnpgjdaaGreatJ18
import Derived.Test.YtjpoacffnpgjdaaGreatJ17
import Derived.Test.YtjpoacffnpgjdaaGreatJ19
import Derived.Test.YtjpoacffnpgjdaaGreatJ20
import Derived.Test.YtjpoacffnpgjdaaGreatJ4
import Derived.Test.YtjpoacffnpgjdaaGreatJ2
import Derived.Test.YtjpoacffnpgjdaaGreatJ7
import Derived.Lib.MinMax
/- The chapter's examples of fire, by the calls of the program: what sanity asks. -/
namespace Go.Proofs.YtjpoacffnpgjdaaGreat
open Go Go.RowKit Go.Shelf

def kilnF : Fi := ⟨20, 10, 5, 30, [⟨1, 10, 5, 800, 900⟩, ⟨2, 12, 8, 700, 850⟩, ⟨3, 10, 20, 950, 1000⟩]⟩
def kiln4 : Fi := ⟨20, 10, 5, 30, [⟨1, 10, 5, 800, 900⟩, ⟨2, 12, 8, 700, 850⟩, ⟨3, 10, 20, 950, 1000⟩, ⟨4, 10, 6, 600, 650⟩]⟩
def pathF : List Spt := [⟨10, 14⟩, ⟨10, 15⟩, ⟨10, 16⟩]
theorem ex_far : farR kilnF ⟨10, 5⟩ ⟨12, 8⟩ = 70 ∧ farE kilnF ⟨10, 5⟩ ⟨12, 8⟩ = 0 := ⟨by kernel_rfl, by kernel_rfl⟩
theorem ex_far2 : farR kilnF ⟨12, 8⟩ ⟨10, 5⟩ = 90 ∧ farE kilnF ⟨12, 8⟩ ⟨10, 5⟩ = 0 := ⟨by kernel_rfl, by kernel_rfl⟩
theorem ex_clash : clashR kilnF = ⟨0, 0, false⟩ ∧ fireI kilnF = 0 := ⟨by kernel_rfl, by kernel_rfl⟩
theorem ex_ends1 : endsR kilnF ⟨10, 10⟩ = ⟨750, 950, 1, 2⟩ ∧ endsE kilnF ⟨10, 10⟩ = 0 := ⟨by kernel_rfl, by kernel_rfl⟩
theorem ex_ends2 : endsR kilnF ⟨10, 15⟩ = ⟨850, 1050, 3, 2⟩ ∧ endsE kilnF ⟨10, 15⟩ = 0 := ⟨by kernel_rfl, by kernel_rfl⟩
theorem ex_ends3 : endsR kilnF ⟨50, 5⟩ = ⟨0, 1070, 0, 2⟩ ∧ endsE kilnF ⟨50, 5⟩ = 0 := ⟨by kernel_rfl, by kernel_rfl⟩
theorem ex_burnt : leastR kilnF pathF 900 = ⟨0, 0, 0⟩ ∧ mostR kilnF pathF 900 = ⟨3, 3, 420⟩ ∧ sunkE kilnF pathF 900 = 0 := ⟨by kernel_rfl, by kernel_rfl, by kernel_rfl⟩
theorem ex_surely : surelyR kilnF pathF 840 = [⟨1, 2⟩] ∧ sunkE kilnF pathF 840 = 0 := ⟨by kernel_rfl, by kernel_rfl⟩
theorem ex_possibly : possiblyR kilnF pathF 1040 = [⟨1, 2⟩] ∧ sunkE kilnF pathF 1040 = 0 := ⟨by kernel_rfl, by kernel_rfl⟩
theorem ex_rests : restsR kilnF ⟨10, 15⟩ = [3] ∧ endsE kilnF ⟨10, 15⟩ = 0 := ⟨by kernel_rfl, by kernel_rfl⟩
theorem ex_needed : neededR kilnF ⟨10, 12⟩ ⟨10, 15⟩ 900 = (930, true) ∧ needE kilnF ⟨10, 12⟩ ⟨10, 15⟩ 900 = 0 := ⟨by kernel_rfl, by kernel_rfl⟩
theorem ex_clash4 : clashR kiln4 = ⟨4, 1, true⟩ ∧ fireI kiln4 = 0 := ⟨by kernel_rfl, by kernel_rfl⟩
theorem ex_susp4 : suspR kiln4 = [4] ∧ fireI kiln4 = 0 := ⟨by kernel_rfl, by kernel_rfl⟩
theorem at_c (a b : Int) (w : World) : Calls Tryz.prog 54 #[.int .i64 a, .int .i64 b] w fun e w' => e = .returned (.agg #[.int .i64 a, .int .i64 b]) ∧ Below w.heap.size w w' := by
  go_enter Tryz.func54, Tryz.ntmps54
  have q0 := heap_alloc_new w (.cells #[.int .i64 a, .int .i64 b] 26)
  have e0 := Joins.cell_of_block q0 0
  have e1 := Joins.cell_of_block q0 1
  go_wp2
  refine bodyPost_ret (v := .agg #[.int .i64 a, .int .i64 b]) ?_ rfl ⟨rfl, below_alloc _ _⟩
  simp [results, Tryz.results54, go_sem, e0, e1]
set_option maxRecDepth 100000 in
set_option maxHeartbeats 2000000 in
theorem Kiln_c (w : World) : Calls Tryz.prog 53 #[] w fun e w' => ∃ v, e = .returned (.agg #[.int .i64 20, .int .i64 10, .int .i64 5, .int .i64 30, v]) ∧ w'.ownsRow w.heap.size 90 5 v 3 (kilnF.ls.flatMap lkC) ∧ Below w.heap.size w w' := by
  go_enter Tryz.func53, Tryz.ntmps53
  go_wp2_with fail
  obtain ⟨q0, q1, qs, qb⟩ := two_new' w (.cells #[.int .i64 20, .int .i64 10, .int .i64 5, .int .i64 30, .slice (some ⟨w.heap.size + 1, 0, none⟩) 3 3] 24) (.cells #[.int .i64 1, .int .i64 10, .int .i64 5, .int .i64 800, .int .i64 900, .int .i64 2, .int .i64 12, .int .i64 8, .int .i64 700, .int .i64 850, .int .i64 3, .int .i64 10, .int .i64 20, .int .i64 950, .int .i64 1000] 90)
  have hO := World.ownsRow_lit (base := w.heap.size) (e := 90) (size := 5) (w.alloc (.cells #[.int .i64 20, .int .i64 10, .int .i64 5, .int .i64 30, .slice (some ⟨w.heap.size + 1, 0, none⟩) 3 3] 24)) #[.int .i64 1, .int .i64 10, .int .i64 5, .int .i64 800, .int .i64 900, .int .i64 2, .int .i64 12, .int .i64 8, .int .i64 700, .int .i64 850, .int .i64 3, .int .i64 10, .int .i64 20, .int .i64 950, .int .i64 1000] 3 (by simp) (by decide) rfl
  rw [World.size_alloc] at hO
  have e0 := Joins.cell_of_block q0 0
  have e1 := Joins.cell_of_block q0 1
  have e2 := Joins.cell_of_block q0 2
  have e3 := Joins.cell_of_block q0 3
  have e4 := Joins.cell_of_block q0 4
  refine bodyPost_ret (v := .agg #[.int .i64 20, .int .i64 10, .int .i64 5, .int .i64 30, .slice (some ⟨w.heap.size + 1, 0, none⟩) 3 3]) ?_ rfl ⟨_, rfl, hO, qb⟩
  simp [results, Tryz.results53, go_sem, e0, e1, e2, e3, e4]
section
variable {v : Value} {w : World}
theorem x_far (hk : Lks w w.heap.size v kilnF.ls) : Calls Tryz.prog 10 #[.agg #[.int .i64 20, .int .i64 10, .int .i64 5, .int .i64 30, v], .agg #[.int .i64 10, .int .i64 5], .agg #[.int .i64 12, .int .i64 8]] w fun e w' => e = .returned (.tuple #[.int .i64 70, .int .i64 0]) ∧ Below w.heap.size w w' := by
  have := Far_c kilnF v ⟨10, 5⟩ ⟨12, 8⟩ w hk; rw [ex_far.1, ex_far.2] at this; exact this
theorem x_far2 (hk : Lks w w.heap.size v kilnF.ls) : Calls Tryz.prog 10 #[.agg #[.int .i64 20, .int .i64 10, .int .i64 5, .int .i64 30, v], .agg #[.int .i64 12, .int .i64 8], .agg #[.int .i64 10, .int .i64 5]] w fun e w' => e = .returned (.tuple #[.int .i64 90, .int .i64 0]) ∧ Below w.heap.size w w' := by
  have := Far_c kilnF v ⟨12, 8⟩ ⟨10, 5⟩ w hk; rw [ex_far2.1, ex_far2.2] at this; exact this
theorem x_clash (hk : Lks w w.heap.size v kilnF.ls) : Calls Tryz.prog 12 #[.agg #[.int .i64 20, .int .i64 10, .int .i64 5, .int .i64 30, v]] w fun e w' => e = .returned (.tuple #[.int .i64 0, .int .i64 0, .bool false, .int .i64 0]) ∧ Below w.heap.size w w' := by
  have := Clash_c kilnF v w hk; rw [ex_clash.1, ex_clash.2] at this; exact this
theorem x_ends1 (hk : Lks w w.heap.size v kilnF.ls) : Calls Tryz.prog 24 #[.agg #[.int .i64 20, .int .i64 10, .int .i64 5, .int .i64 30, v], .agg #[.int .i64 10, .int .i64 10]] w fun e w' => e = .returned (.tuple #[.agg #[.int .i64 750, .int .i64 950, .int .i64 1, .int .i64 2], .int .i64 0]) ∧ Below w.heap.size w w' := by
  have := Ends_c kilnF v ⟨10, 10⟩ w hk; rw [ex_ends1.1, ex_ends1.2] at this; exact this
theorem x_ends2 (hk : Lks w w.heap.size v kilnF.ls) : Calls Tryz.prog 24 #[.agg #[.int .i64 20, .int .i64 10, .int .i64 5, .int .i64 30, v], .agg #[.int .i64 10, .int .i64 15]] w fun e w' => e = .returned (.tuple #[.agg #[.int .i64 850, .int .i64 1050, .int .i64 3, .int .i64 2], .int .i64 0]) ∧ Below w.heap.size w w' := by
  have := Ends_c kilnF v ⟨10, 15⟩ w hk; rw [ex_ends2.1, ex_ends2.2] at this; exact this
theorem x_ends3 (hk : Lks w w.heap.size v kilnF.ls) : Calls Tryz.prog 24 #[.agg #[.int .i64 20, .int .i64 10, .int .i64 5, .int .i64 30, v], .agg #[.int .i64 50, .int .i64 5]] w fun e w' => e = .returned (.tuple #[.agg #[.int .i64 0, .int .i64 1070, .int .i64 0, .int .i64 2], .int .i64 0]) ∧ Below w.heap.size w w' := by
  have := Ends_c kilnF v ⟨50, 5⟩ w hk; rw [ex_ends3.1, ex_ends3.2] at this; exact this
theorem x_burnt (hk : Lks w w.heap.size v kilnF.ls) {u : Value} (hu : Spts w w.heap.size u pathF) : Calls Tryz.prog 38 #[.agg #[.int .i64 20, .int .i64 10, .int .i64 5, .int .i64 30, v], u, .int .i64 900] w fun e w' => e = .returned (.tuple #[.agg #[.int .i64 0, .int .i64 0, .int .i64 0], .agg #[.int .i64 3, .int .i64 3, .int .i64 420], .int .i64 0]) ∧ Below w.heap.size w w' := by
  have := Burnt_c kilnF v u pathF 900 w hk hu; rw [ex_burnt.1, ex_burnt.2.1, ex_burnt.2.2] at this; exact this
theorem x_surely (hk : Lks w w.heap.size v kilnF.ls) {u : Value} (hu : Spts w w.heap.size u pathF) : Calls Tryz.prog 40 #[.agg #[.int .i64 20, .int .i64 10, .int .i64 5, .int .i64 30, v], u, .int .i64 840] w fun e w' => ∃ s, e = .returned (.tuple #[s, .int .i64 0]) ∧ w'.ownsRow w.heap.size 54 2 s 1 ([(⟨1, 2⟩ : Spn)].flatMap spnC) ∧ Below w.heap.size w w' := by
  have := Surely_c kilnF v u pathF 840 w hk hu; rw [ex_surely.1, ex_surely.2] at this
  exact this.mono fun e w' ⟨s, h1, h2, h3⟩ => ⟨s, h1, h2, h3⟩
theorem x_possibly (hk : Lks w w.heap.size v kilnF.ls) {u : Value} (hu : Spts w w.heap.size u pathF) : Calls Tryz.prog 42 #[.agg #[.int .i64 20, .int .i64 10, .int .i64 5, .int .i64 30, v], u, .int .i64 1040] w fun e w' => ∃ s, e = .returned (.tuple #[s, .int .i64 0]) ∧ w'.ownsRow w.heap.size 54 2 s 1 ([(⟨1, 2⟩ : Spn)].flatMap spnC) ∧ Below w.heap.size w w' := by
  have := Possibly_c kilnF v u pathF 1040 w hk hu; rw [ex_possibly.1, ex_possibly.2] at this
  exact this.mono fun e w' ⟨s, h1, h2, h3⟩ => ⟨s, h1, h2, h3⟩
theorem x_rests (hk : Lks w w.heap.size v kilnF.ls) : Calls Tryz.prog 26 #[.agg #[.int .i64 20, .int .i64 10, .int .i64 5, .int .i64 30, v], .agg #[.int .i64 10, .int .i64 15]] w fun e w' => ∃ s, e = .returned (.tuple #[s, .int .i64 0]) ∧ w'.ownsRow w.heap.size 3 1 s 1 ([3].map (Value.int .i64)) ∧ Below w.heap.size w w' := by
  have := Rests_c kilnF v ⟨10, 15⟩ w hk; rw [ex_rests.1, ex_rests.2] at this
  exact this.mono fun e w' ⟨s, h1, h2, h3⟩ => ⟨s, h1, h2, h3⟩
theorem x_needed (hk : Lks w w.heap.size v kilnF.ls) : Calls Tryz.prog 49 #[.agg #[.int .i64 20, .int .i64 10, .int .i64 5, .int .i64 30, v], .agg #[.int .i64 10, .int .i64 12], .agg #[.int .i64 10, .int .i64 15], .int .i64 900] w fun e w' => e = .returned (.tuple #[.int .i64 930, .bool true, .int .i64 0]) ∧ Below w.heap.size w w' := by
  have := Needed_c kilnF v ⟨10, 12⟩ ⟨10, 15⟩ 900 w hk; rw [ex_needed.1, ex_needed.2] at this; exact this
theorem x_clash4 (hk : Lks w w.heap.size v kiln4.ls) : Calls Tryz.prog 12 #[.agg #[.int .i64 20, .int .i64 10, .int .i64 5, .int .i64 30, v]] w fun e w' => e = .returned (.tuple #[.int .i64 4, .int .i64 1, .bool true, .int .i64 0]) ∧ Below w.heap.size w w' := by
  have := Clash_c kiln4 v w hk; rw [ex_clash4.1, ex_clash4.2] at this; exact this
theorem x_susp4 (hk : Lks w w.heap.size v kiln4.ls) : Calls Tryz.prog 14 #[.agg #[.int .i64 20, .int .i64 10, .int .i64 5, .int .i64 30, v]] w fun e w' => ∃ s, e = .returned (.tuple #[s, .int .i64 0]) ∧ w'.ownsRow w.heap.size 3 1 s 1 ([4].map (Value.int .i64)) ∧ Below w.heap.size w w' := by
  have := Suspects_c kiln4 v w hk; rw [ex_susp4.1, ex_susp4.2] at this
  exact this.mono fun e w' ⟨s, h1, h2, h3⟩ => ⟨s, h1, h2, h3⟩
theorem sameI_t {l : List Int} {u : Value} (hv : Ints w w.heap.size v l) (hu : Ints w w.heap.size u l) : Calls Tryz.prog 22 #[v, u] w fun e w' => e = .returned (.bool true) ∧ Below w.heap.size w w' := by
  have := sameInts_c v u l l w hv hu; rw [decide_eq_true rfl] at this; exact this
theorem sameS_t {l : List Spn} {u : Value} (hv : Spns w w.heap.size v l) (hu : Spns w w.heap.size u l) : Calls Tryz.prog 46 #[v, u] w fun e w' => e = .returned (.bool true) ∧ Below w.heap.size w w' := by
  have := sameSpans_c v u l l w hv hu; rw [decide_eq_true rfl] at this; exact this
end
end Go.Proofs.YtjpoacffnpgjdaaGreat
/- sanity: the chapter's examples of fire come out (written by tools/genfhead.py). -/
namespace Go.Proofs.YtjpoacffnpgjdaaGreat
open Go Go.RowKit Go.Shelf
attribute [local go_sem] Oper.semAt_some Rel RelAt RelUpon
set_option maxRecDepth 100000 in
set_option maxHeartbeats 8000000 in
theorem sanity_c (w : World) : Calls Tryz.prog 9 #[] w fun e w' => e = .returned (.bool true) ∧ Below w.heap.size w w' := by
  have heqBd := Tryz.eqBd
  have heqBr := Tryz.eqBr
  obtain ⟨i0, hi, hz0, hz1, hz2⟩ := info_parts Tryz.infoLk
  have HI := Lib.hid hi
  have HI0 := Lib.hid hz0
  have HI1 := Lib.hid hz1
  have HI2 := Lib.hid hz2
  clear hi hz0 hz1 hz2
  go_enter Tryz.func9, Tryz.ntmps9
  go_wp2_with fail
  refine (Kiln_c w).mono ?_
  rintro e w1 ⟨vK, rfl, hO, hB⟩
  obtain ⟨g0, cap, rfl, hg0, -⟩ := hO.form (by omega)
  clear hg0
  have hk : Lks w1 w1.heap.size (.slice (some ⟨g0, 0, none⟩) 3 cap) kilnF.ls := Sl.of_own lkC_len hO (by simp [kilnF])
  have hfg := hB.size
  have bf := heap_alloc_new w1 (.cells #[.int .i64 20, .int .i64 10, .int .i64 5, .int .i64 30, .slice (some ⟨g0, 0, none⟩) 3 cap] 24)
  have HB := below_alloc w1 (.cells #[.int .i64 20, .int .i64 10, .int .i64 5, .int .i64 30, .slice (some ⟨g0, 0, none⟩) 3 cap] 24)
  go_wp2_with fail
  generalize w1.alloc (.cells #[.int .i64 20, .int .i64 10, .int .i64 5, .int .i64 30, .slice (some ⟨g0, 0, none⟩) 3 cap] 24) = w2 at bf HB ⊢
  replace hk := hk.later HB
  replace hO := own_below hO HB
  replace hB := below_then hB HB
  clear HB
  refine wp_region_looseM [] [0] (.one 1 (.one 2 (.one 3 .done))) [] [4, 5, 6] [7, 8] [] [] (by kernel_rfl) (by kernel_rfl) (by intro c a d v w h; cases d <;> exact h) (by intro c a d v w h; cases d <;> exact h) rfl (fun r i h => by simp at h) ?_
  simp only [pick, List.filterMap_cons, List.filterMap_nil, List.getElem?_toArray, List.getElem?_cons_succ, List.getElem?_cons_zero]
  intro u3 hu3
  have tf := (hu3.block _ (size_of_block bf)).trans bf
  have ztf := size_of_block tf
  have c0 := Joins.cell_of_block tf 0
  have c1 := Joins.cell_of_block tf 1
  have c2 := Joins.cell_of_block tf 2
  have c3 := Joins.cell_of_block tf 3
  have c4 := Joins.cell_of_block tf 4
  have hcg : ∀ (g : Gr u3) b o, b < u3.heap.size → g.val.cell? ⟨b, o, none⟩ = u3.cell? ⟨b, o, none⟩ := fun g b o h => (bcell g.b).1 b o h
  iterate 1 (refine wpRel_step (fun K hK => ?_); go_simp; refine hK _ ?_; clear hK K)
  refine wpRel_nil fun V3_0 hb3 => ?_
  clear hcg tf ztf c0 c1 c2 c3 c4
  have D0 := below_then hu3 hb3
  clear hb3
  refine wpTr_step rfl rfl fun K hK => ?_
  go_simp
  refine (at_c 10 5 V3_0).mono ?_
  rintro e X ⟨rfl, hx⟩
  refine hK _ _ hx fun V3_1 hu => ?_
  clear hK K
  have D1 := below_then D0 (below_then hx hu)
  clear hx hu D0
  refine wpTr_step rfl rfl fun K hK => ?_
  go_simp
  refine (at_c 12 8 V3_1).mono ?_
  rintro e X ⟨rfl, hx⟩
  refine hK _ _ hx fun V3_2 hu => ?_
  clear hK K
  have D2 := below_then D1 (below_then hx hu)
  clear hx hu D1
  refine wpTr_step rfl rfl fun K hK => ?_
  go_simp
  refine (x_far (hk.later D2)).mono ?_
  rintro e X ⟨rfl, hx⟩
  refine hK _ _ hx fun V3_3 hu => ?_
  clear hK K
  have D3 := below_then D2 (below_then hx hu)
  clear hx hu D2
  show wpPure _ _ _ _
  refine wpPure_step (.tuple #[.int .i64 70, .int .i64 0]) rfl (fun u => rfl) ?_
  refine wpPure_step (.int .i64 70) rfl (fun u => rfl) ?_
  refine wpPure_step (.int .i64 0) rfl (fun u => rfl) ?_
  intro ks hks _ _
  obtain rfl : ks = [] := List.length_eq_zero_iff.1 hks
  clear hks
  show wpList _ _ _ _ _ _
  simp only [deco]
  replace bf := (D3.block _ (size_of_block bf)).trans bf
  replace hk := hk.later D3
  replace hO := own_below hO D3
  replace hB := below_then hB D3
  clear D3
  go_wp2_with fail
  refine wp_region_looseM [] [0] (.one 1 (.one 2 (.one 3 .done))) [] [4, 5, 6] [7, 8] [] [] (by kernel_rfl) (by kernel_rfl) (by intro c a d v w h; cases d <;> exact h) (by intro c a d v w h; cases d <;> exact h) rfl (fun r i h => by simp at h) ?_
  simp only [pick, List.filterMap_cons, List.filterMap_nil, List.getElem?_toArray, List.getElem?_cons_succ, List.getElem?_cons_zero]
  intro u4 hu4
  have tf := (hu4.block _ (size_of_block bf)).trans bf
  have ztf := size_of_block tf
  have c0 := Joins.cell_of_block tf 0
  have c1 := Joins.cell_of_block tf 1
  have c2 := Joins.cell_of_block tf 2
  have c3 := Joins.cell_of_block tf 3
  have c4 := Joins.cell_of_block tf 4
  have hcg : ∀ (g : Gr u4) b o, b < u4.heap.size → g.val.cell? ⟨b, o, none⟩ = u4.cell? ⟨b, o, none⟩ := fun g b o h => (bcell g.b).1 b o h
  iterate 1 (refine wpRel_step (fun K hK => ?_); go_simp; refine hK _ ?_; clear hK K)
  refine wpRel_nil fun V4_0 hb4 => ?_
  clear hcg tf ztf c0 c1 c2 c3 c4
  have D0 := below_then hu4 hb4
  clear hb4
  refine wpTr_step rfl rfl fun K hK => ?_
  go_simp
  refine (at_c 12 8 V4_0).mono ?_
  rintro e X ⟨rfl, hx⟩
  refine hK _ _ hx fun V4_1 hu => ?_
  clear hK K
  have D1 := below_then D0 (below_then hx hu)
  clear hx hu D0
  refine wpTr_step rfl rfl fun K hK => ?_
  go_simp
  refine (at_c 10 5 V4_1).mono ?_
  rintro e X ⟨rfl, hx⟩
  refine hK _ _ hx fun V4_2 hu => ?_
  clear hK K
  have D2 := below_then D1 (below_then hx hu)
  clear hx hu D1
  refine wpTr_step rfl rfl fun K hK => ?_
  go_simp
  refine (x_far2 (hk.later D2)).mono ?_
  rintro e X ⟨rfl, hx⟩
  refine hK _ _ hx fun V4_3 hu => ?_
  clear hK K
  have D3 := below_then D2 (below_then hx hu)
  clear hx hu D2
  show wpPure _ _ _ _
  refine wpPure_step (.tuple #[.int .i64 90, .int .i64 0]) rfl (fun u => rfl) ?_
  refine wpPure_step (.int .i64 90) rfl (fun u => rfl) ?_
  refine wpPure_step (.int .i64 0) rfl (fun u => rfl) ?_
  intro ks hks _ _
  obtain rfl : ks = [] := List.length_eq_zero_iff.1 hks
  clear hks
  show wpList _ _ _ _ _ _
  simp only [deco]
  replace bf := (D3.block _ (size_of_block bf)).trans bf
  replace hk := hk.later D3
  replace hO := own_below hO D3
  replace hB := below_then hB D3
  clear D3
  have c0 := Joins.cell_of_block bf 0
  have c1 := Joins.cell_of_block bf 1
  have c2 := Joins.cell_of_block bf 2
  have c3 := Joins.cell_of_block bf 3
  have c4 := Joins.cell_of_block bf 4
  go_wp2_with fail
  refine (x_clash hk).mono ?_
  rintro e w5 ⟨rfl, hF5⟩
  replace bf := (hF5.block _ (size_of_block bf)).trans bf
  replace hk := hk.later hF5
  replace hO := own_below hO hF5
  replace hB := below_then hB hF5
  clear hF5
  clear c0 c1 c2 c3 c4
  go_wp2_with fail
  refine wp_region_looseM [] [0] (.one 1 (.one 2 .done)) [6] [3, 4, 5] [7, 8] [some 10] [.cells #[.int .i64 0, .int .i64 0, .int .i64 0, .int .i64 0] 56] (by kernel_rfl) (by kernel_rfl) (by intro c a d v w h; cases d <;> exact h) (by intro c a d v w h; cases d <;> exact h) rfl (by intro r i hri; match r, hri with | 0, hri => cases hri; exact ⟨_, _, rfl, rfl, rfl, rfl, fun a u => by simp [execOp, go_sem, ptrV]⟩) ?_
  simp only [pick, List.filterMap_cons, List.filterMap_nil, List.getElem?_toArray, List.getElem?_cons_succ, List.getElem?_cons_zero]
  intro u6 hu6
  have tf := (hu6.block _ (size_of_block bf)).trans bf
  have ztf := size_of_block tf
  have c0 := Joins.cell_of_block tf 0
  have c1 := Joins.cell_of_block tf 1
  have c2 := Joins.cell_of_block tf 2
  have c3 := Joins.cell_of_block tf 3
  have c4 := Joins.cell_of_block tf 4
  have hcg : ∀ (g : Gr u6) b o, b < u6.heap.size → g.val.cell? ⟨b, o, none⟩ = u6.cell? ⟨b, o, none⟩ := fun g b o h => (bcell g.b).1 b o h
  iterate 1 (refine wpRel_step (fun K hK => ?_); go_simp; refine hK _ ?_; clear hK K)
  refine wpRel_nil fun V6_0 hb6 => ?_
  clear hcg tf ztf c0 c1 c2 c3 c4
  have D0 := below_then hu6 hb6
  clear hb6
  refine wpTr_step rfl rfl fun K hK => ?_
  go_simp
  refine (at_c 10 10 V6_0).mono ?_
  rintro e X ⟨rfl, hx⟩
  refine hK _ _ hx fun V6_1 hu => ?_
  clear hK K
  have D1 := below_then D0 (below_then hx hu)
  clear hx hu D0
  refine wpTr_step rfl rfl fun K hK => ?_
  go_simp
  refine (x_ends1 (hk.later D1)).mono ?_
  rintro e X ⟨rfl, hx⟩
  refine hK _ _ hx fun V6_2 hu => ?_
  clear hK K
  have D2 := below_then D1 (below_then hx hu)
  clear hx hu D1
  show wpPure _ _ _ _
  refine wpPure_step (.tuple #[.agg #[.int .i64 750, .int .i64 950, .int .i64 1, .int .i64 2], .int .i64 0]) rfl (fun u => rfl) ?_
  refine wpPure_step (.agg #[.int .i64 750, .int .i64 950, .int .i64 1, .int .i64 2]) rfl (fun u => rfl) ?_
  refine wpPure_step (.int .i64 0) rfl (fun u => rfl) ?_
  intro ks hks hall hH
  obtain ⟨k1, rfl⟩ : ∃ k1, ks = [some k1] := by
    match ks, hks with
    | [none], _ => exact absurd rfl (hall 0)
    | [some k1], _ => exact ⟨k1, rfl⟩
  obtain ⟨o1, ge1, lt1⟩ := hH.obj 0 k1 rfl
  rw [show ([Obj.cells #[.int .i64 0, .int .i64 0, .int .i64 0, .int .i64 0] 56])[0]? = some (.cells #[.int .i64 0, .int .i64 0, .int .i64 0, .int .i64 0] 56) from rfl] at o1
  clear hH hall hks
  show wpList _ _ _ _ _ _
  simp only [deco, ptrV]
  refine wpList_store_rowTo rfl 56 _ _ rfl rfl k1 #[.int .i64 750, .int .i64 950, .int .i64 1, .int .i64 2] rfl rfl 56 _ o1 (by kernel_rfl) rfl (by kernel_rfl) ?_
  have bx := setRow_heap V6_2 k1 _ #[.int .i64 750, .int .i64 950, .int .i64 1, .int .i64 2] _ _ o1
  have HB := below_setRow D2 ge1 #[.int .i64 750, .int .i64 950, .int .i64 1, .int .i64 2]
  generalize V6_2.setRow k1 #[.int .i64 750, .int .i64 950, .int .i64 1, .int .i64 2] = w6 at bx HB ⊢
  obtain ⟨kbx, hkbx⟩ : ∃ k, k = k1 := ⟨_, rfl⟩
  rw [← hkbx] at bx ⊢
  clear hkbx o1 ge1 lt1 D2
  replace bf := (HB.block _ (size_of_block bf)).trans bf
  replace hk := hk.later HB
  replace hO := own_below hO HB
  replace hB := below_then hB HB
  clear HB
  go_wp2_with fail
  refine wp_region_looseM [] [0] (.one 1 (.one 2 .done)) [6] [3, 4, 5] [7, 8] [some 12] [.cells #[.int .i64 0, .int .i64 0, .int .i64 0, .int .i64 0] 56] (by kernel_rfl) (by kernel_rfl) (by intro c a d v w h; cases d <;> exact h) (by intro c a d v w h; cases d <;> exact h) rfl (by intro r i hri; match r, hri with | 0, hri => cases hri; exact ⟨_, _, rfl, rfl, rfl, rfl, fun a u => by simp [execOp, go_sem, ptrV]⟩) ?_
  simp only [pick, List.filterMap_cons, List.filterMap_nil, List.getElem?_toArray, List.getElem?_cons_succ, List.getElem?_cons_zero]
  intro u7 hu7
  have tf := (hu7.block _ (size_of_block bf)).trans bf
  have ztf := size_of_block tf
  have c0 := Joins.cell_of_block tf 0
  have c1 := Joins.cell_of_block tf 1
  have c2 := Joins.cell_of_block tf 2
  have c3 := Joins.cell_of_block tf 3
  have c4 := Joins.cell_of_block tf 4
  have hcg : ∀ (g : Gr u7) b o, b < u7.heap.size → g.val.cell? ⟨b, o, none⟩ = u7.cell? ⟨b, o, none⟩ := fun g b o h => (bcell g.b).1 b o h
  iterate 1 (refine wpRel_step (fun K hK => ?_); go_simp; refine hK _ ?_; clear hK K)
  refine wpRel_nil fun V7_0 hb7 => ?_
  clear hcg tf ztf c0 c1 c2 c3 c4
  have D0 := below_then hu7 hb7
  clear hb7
  refine wpTr_step rfl rfl fun K hK => ?_
  go_simp
  refine (at_c 10 15 V7_0).mono ?_
  rintro e X ⟨rfl, hx⟩
  refine hK _ _ hx fun V7_1 hu => ?_
  clear hK K
  have D1 := below_then D0 (below_then hx hu)
  clear hx hu D0
  refine wpTr_step rfl rfl fun K hK => ?_
  go_simp
  refine (x_ends2 (hk.later D1)).mono ?_
  rintro e X ⟨rfl, hx⟩
  refine hK _ _ hx fun V7_2 hu => ?_
  clear hK K
  have D2 := below_then D1 (below_then hx hu)
  clear hx hu D1
  show wpPure _ _ _ _
  refine wpPure_step (.tuple #[.agg #[.int .i64 850, .int .i64 1050, .int .i64 3, .int .i64 2], .int .i64 0]) rfl (fun u => rfl) ?_
  refine wpPure_step (.agg #[.int .i64 850, .int .i64 1050, .int .i64 3, .int .i64 2]) rfl (fun u => rfl) ?_
  refine wpPure_step (.int .i64 0) rfl (fun u => rfl) ?_
  intro ks hks hall hH
  obtain ⟨k1, rfl⟩ : ∃ k1, ks = [some k1] := by
    match ks, hks with
    | [none], _ => exact absurd rfl (hall 0)
    | [some k1], _ => exact ⟨k1, rfl⟩
  obtain ⟨o1, ge1, lt1⟩ := hH.obj 0 k1 rfl
  rw [show ([Obj.cells #[.int .i64 0, .int .i64 0, .int .i64 0, .int .i64 0] 56])[0]? = some (.cells #[.int .i64 0, .int .i64 0, .int .i64 0, .int .i64 0] 56) from rfl] at o1
  clear hH hall hks
  show wpList _ _ _ _ _ _
  simp only [deco, ptrV]
  refine wpList_store_rowTo rfl 56 _ _ rfl rfl k1 #[.int .i64 850, .int .i64 1050, .int .i64 3, .int .i64 2] rfl rfl 56 _ o1 (by kernel_rfl) rfl (by kernel_rfl) ?_
  have by_ := setRow_heap V7_2 k1 _ #[.int .i64 850, .int .i64 1050, .int .i64 3, .int .i64 2] _ _ o1
  have HB := below_setRow D2 ge1 #[.int .i64 850, .int .i64 1050, .int .i64 3, .int .i64 2]
  generalize V7_2.setRow k1 #[.int .i64 850, .int .i64 1050, .int .i64 3, .int .i64 2] = w7 at by_ HB ⊢
  obtain ⟨kby_, hkby_⟩ : ∃ k, k = k1 := ⟨_, rfl⟩
  rw [← hkby_] at by_ ⊢
  clear hkby_ o1 ge1 lt1 D2
  replace bf := (HB.block _ (size_of_block bf)).trans bf
  replace bx := (HB.block _ (size_of_block bx)).trans bx
  replace hk := hk.later HB
  replace hO := own_below hO HB
  replace hB := below_then hB HB
  clear HB
  go_wp2_with fail
  refine wp_region_looseM [] [0] (.one 1 (.one 2 .done)) [6] [3, 4, 5] [7, 8] [some 14] [.cells #[.int .i64 0, .int .i64 0, .int .i64 0, .int .i64 0] 56] (by kernel_rfl) (by kernel_rfl) (by intro c a d v w h; cases d <;> exact h) (by intro c a d v w h; cases d <;> exact h) rfl (by intro r i hri; match r, hri with | 0, hri => cases hri; exact ⟨_, _, rfl, rfl, rfl, rfl, fun a u => by simp [execOp, go_sem, ptrV]⟩) ?_
  simp only [pick, List.filterMap_cons, List.filterMap_nil, List.getElem?_toArray, List.getElem?_cons_succ, List.getElem?_cons_zero]
  intro u8 hu8
  have tf := (hu8.block _ (size_of_block bf)).trans bf
  have ztf := size_of_block tf
  have c0 := Joins.cell_of_block tf 0
  have c1 := Joins.cell_of_block tf 1
  have c2 := Joins.cell_of_block tf 2
  have c3 := Joins.cell_of_block tf 3
  have c4 := Joins.cell_of_block tf 4
  have hcg : ∀ (g : Gr u8) b o, b < u8.heap.size → g.val.cell? ⟨b, o, none⟩ = u8.cell? ⟨b, o, none⟩ := fun g b o h => (bcell g.b).1 b o h
  iterate 1 (refine wpRel_step (fun K hK => ?_); go_simp; refine hK _ ?_; clear hK K)
  refine wpRel_nil fun V8_0 hb8 => ?_
  clear hcg tf ztf c0 c1 c2 c3 c4
  have D0 := below_then hu8 hb8
  clear hb8
  refine wpTr_step rfl rfl fun K hK => ?_
  go_simp
  refine (at_c 50 5 V8_0).mono ?_
  rintro e X ⟨rfl, hx⟩
  refine hK _ _ hx fun V8_1 hu => ?_
  clear hK K
  have D1 := below_then D0 (below_then hx hu)
  clear hx hu D0
  refine wpTr_step rfl rfl fun K hK => ?_
  go_simp
  refine (x_ends3 (hk.later D1)).mono ?_
  rintro e X ⟨rfl, hx⟩
  refine hK _ _ hx fun V8_2 hu => ?_
  clear hK K
  have D2 := below_then D1 (below_then hx hu)
  clear hx hu D1
  show wpPure _ _ _ _
  refine wpPure_step (.tuple #[.agg #[.int .i64 0, .int .i64 1070, .int .i64 0, .int .i64 2], .int .i64 0]) rfl (fun u => rfl) ?_
  refine wpPure_step (.agg #[.int .i64 0, .int .i64 1070, .int .i64 0, .int .i64 2]) rfl (fun u => rfl) ?_
  refine wpPure_step (.int .i64 0) rfl (fun u => rfl) ?_
  intro ks hks hall hH
  obtain ⟨k1, rfl⟩ : ∃ k1, ks = [some k1] := by
    match ks, hks with
    | [none], _ => exact absurd rfl (hall 0)
    | [some k1], _ => exact ⟨k1, rfl⟩
  obtain ⟨o1, ge1, lt1⟩ := hH.obj 0 k1 rfl
  rw [show ([Obj.cells #[.int .i64 0, .int .i64 0, .int .i64 0, .int .i64 0] 56])[0]? = some (.cells #[.int .i64 0, .int .i64 0, .int .i64 0, .int .i64 0] 56) from rfl] at o1
  clear hH hall hks
  show wpList _ _ _ _ _ _
  simp only [deco, ptrV]
  refine wpList_store_rowTo rfl 56 _ _ rfl rfl k1 #[.int .i64 0, .int .i64 1070, .int .i64 0, .int .i64 2] rfl rfl 56 _ o1 (by kernel_rfl) rfl (by kernel_rfl) ?_
  have bz := setRow_heap V8_2 k1 _ #[.int .i64 0, .int .i64 1070, .int .i64 0, .int .i64 2] _ _ o1
  have HB := below_setRow D2 ge1 #[.int .i64 0, .int .i64 1070, .int .i64 0, .int .i64 2]
  generalize V8_2.setRow k1 #[.int .i64 0, .int .i64 1070, .int .i64 0, .int .i64 2] = w8 at bz HB ⊢
  obtain ⟨kbz, hkbz⟩ : ∃ k, k = k1 := ⟨_, rfl⟩
  rw [← hkbz] at bz ⊢
  clear hkbz o1 ge1 lt1 D2
  replace bf := (HB.block _ (size_of_block bf)).trans bf
  replace bx := (HB.block _ (size_of_block bx)).trans bx
  replace by_ := (HB.block _ (size_of_block by_)).trans by_
  replace hk := hk.later HB
  replace hO := own_below hO HB
  replace hB := below_then hB HB
  clear HB
  have bx0 := Joins.cell_of_block bx 0
  have bx1 := Joins.cell_of_block bx 1
  have bx2 := Joins.cell_of_block bx 2
  have bx3 := Joins.cell_of_block bx 3
  have by_0 := Joins.cell_of_block by_ 0
  have by_1 := Joins.cell_of_block by_ 1
  have by_2 := Joins.cell_of_block by_ 2
  have by_3 := Joins.cell_of_block by_ 3
  have bz0 := Joins.cell_of_block bz 0
  have bz1 := Joins.cell_of_block bz 1
  have bz2 := Joins.cell_of_block bz 2
  have bz3 := Joins.cell_of_block bz 3
  go_wp2_with fail
  refine (at_c 10 14 _).mono ?_
  rintro e w9 ⟨rfl, hF9⟩
  replace bf := (hF9.block _ (size_of_block bf)).trans bf
  replace bx := (hF9.block _ (size_of_block bx)).trans bx
  replace by_ := (hF9.block _ (size_of_block by_)).trans by_
  replace bz := (hF9.block _ (size_of_block bz)).trans bz
  replace hk := hk.later hF9
  replace hO := own_below hO hF9
  replace hB := below_then hB hF9
  clear hF9
  clear bx0 bx1 bx2 bx3 by_0 by_1 by_2 by_3 bz0 bz1 bz2 bz3
  clear bx
  clear by_
  clear bz
  go_wp2_with fail
  refine (at_c 10 15 _).mono ?_
  rintro e w10 ⟨rfl, hF10⟩
  replace bf := (hF10.block _ (size_of_block bf)).trans bf
  replace hk := hk.later hF10
  replace hO := own_below hO hF10
  replace hB := below_then hB hF10
  clear hF10
  go_wp2_with fail
  refine (at_c 10 16 _).mono ?_
  rintro e w11 ⟨rfl, hF11⟩
  replace bf := (hF11.block _ (size_of_block bf)).trans bf
  replace hk := hk.later hF11
  replace hO := own_below hO hF11
  replace hB := below_then hB hF11
  clear hF11
  have hp := builtL sC_len w11 pathF 26 #[.int .i64 10, .int .i64 14, .int .i64 10, .int .i64 15, .int .i64 10, .int .i64 16] w11.heap.size 3 rfl (by simp [pathF]) rfl rfl
  have HB := below_alloc w11 (.cells #[.int .i64 10, .int .i64 14, .int .i64 10, .int .i64 15, .int .i64 10, .int .i64 16] 26)
  have c0 := Joins.cell_of_block bf 0
  have c1 := Joins.cell_of_block bf 1
  have c2 := Joins.cell_of_block bf 2
  have c3 := Joins.cell_of_block bf 3
  have c4 := Joins.cell_of_block bf 4
  replace c0 : (w11.alloc (.cells #[.int .i64 10, .int .i64 14, .int .i64 10, .int .i64 15, .int .i64 10, .int .i64 16] 26)).cell? ⟨w1.heap.size, 0, none⟩ = _ := Joins.cell_of_block ((HB.block _ (size_of_block bf)).trans bf) 0
  replace c1 : (w11.alloc (.cells #[.int .i64 10, .int .i64 14, .int .i64 10, .int .i64 15, .int .i64 10, .int .i64 16] 26)).cell? ⟨w1.heap.size, 1, none⟩ = _ := Joins.cell_of_block ((HB.block _ (size_of_block bf)).trans bf) 1
  replace c2 : (w11.alloc (.cells #[.int .i64 10, .int .i64 14, .int .i64 10, .int .i64 15, .int .i64 10, .int .i64 16] 26)).cell? ⟨w1.heap.size, 2, none⟩ = _ := Joins.cell_of_block ((HB.block _ (size_of_block bf)).trans bf) 2
  replace c3 : (w11.alloc (.cells #[.int .i64 10, .int .i64 14, .int .i64 10, .int .i64 15, .int .i64 10, .int .i64 16] 26)).cell? ⟨w1.heap.size, 3, none⟩ = _ := Joins.cell_of_block ((HB.block _ (size_of_block bf)).trans bf) 3
  replace c4 : (w11.alloc (.cells #[.int .i64 10, .int .i64 14, .int .i64 10, .int .i64 15, .int .i64 10, .int .i64 16] 26)).cell? ⟨w1.heap.size, 4, none⟩ = _ := Joins.cell_of_block ((HB.block _ (size_of_block bf)).trans bf) 4
  go_wp2_with fail
  generalize w11.alloc (.cells #[.int .i64 10, .int .i64 14, .int .i64 10, .int .i64 15, .int .i64 10, .int .i64 16] 26) = wp at hp HB c0 c1 c2 c3 c4 ⊢
  replace bf := (HB.block _ (size_of_block bf)).trans bf
  replace hk := hk.later HB
  replace hO := own_below hO HB
  replace hB := below_then hB HB
  clear HB
  refine (x_burnt hk hp).mono ?_
  rintro e w12 ⟨rfl, hF12⟩
  replace bf := (hF12.block _ (size_of_block bf)).trans bf
  replace hk := hk.later hF12
  replace hp := hp.later hF12
  replace hO := own_below hO hF12
  replace hB := below_then hB hF12
  clear hF12
  clear c0 c1 c2 c3 c4
  obtain ⟨bl, bm, -, HB⟩ := two_new' w12 (.cells #[.int .i64 0, .int .i64 0, .int .i64 0] 74) (.cells #[.int .i64 3, .int .i64 3, .int .i64 420] 74)
  have c0 := Joins.cell_of_block ((HB.block _ (size_of_block bf)).trans bf) 0
  have c1 := Joins.cell_of_block ((HB.block _ (size_of_block bf)).trans bf) 1
  have c2 := Joins.cell_of_block ((HB.block _ (size_of_block bf)).trans bf) 2
  have c3 := Joins.cell_of_block ((HB.block _ (size_of_block bf)).trans bf) 3
  have c4 := Joins.cell_of_block ((HB.block _ (size_of_block bf)).trans bf) 4
  go_wp2_with fail
  generalize (w12.alloc _).alloc _ = wb at bl bm HB c0 c1 c2 c3 c4 ⊢
  have hlm : w1.heap.size < w12.heap.size := size_of_block bf
  replace bf := (HB.block _ (size_of_block bf)).trans bf
  replace hk := hk.later HB
  replace hp := hp.later HB
  replace hO := own_below hO HB
  replace hB := below_then hB HB
  clear HB
  refine (x_surely hk hp).mono ?_
  rintro e w13 ⟨s1, rfl, hs1, hF13⟩
  replace bf := (hF13.block _ (size_of_block bf)).trans bf
  replace bl := (hF13.block _ (size_of_block bl)).trans bl
  replace bm := (hF13.block _ (size_of_block bm)).trans bm
  replace hk := hk.later hF13
  replace hp := hp.later hF13
  replace hO := own_below hO hF13
  replace hB := below_then hB hF13
  clear hF13
  clear c0 c1 c2 c3 c4
  have c0 := Joins.cell_of_block bf 0
  have c1 := Joins.cell_of_block bf 1
  have c2 := Joins.cell_of_block bf 2
  have c3 := Joins.cell_of_block bf 3
  have c4 := Joins.cell_of_block bf 4
  go_wp2_with fail
  refine (x_possibly hk hp).mono ?_
  rintro e w14 ⟨s2, rfl, hs2, hF14⟩
  replace bf := (hF14.block _ (size_of_block bf)).trans bf
  replace bl := (hF14.block _ (size_of_block bl)).trans bl
  replace bm := (hF14.block _ (size_of_block bm)).trans bm
  replace hk := hk.later hF14
  replace hp := hp.later hF14
  replace hO := own_below hO hF14
  replace hs1 := own_below hs1 hF14
  replace hB := below_then hB hF14
  clear hF14
  clear c0 c1 c2 c3 c4
  go_wp2_with fail
  refine wp_region_looseM [] [0] (.one 1 (.one 2 .done)) [] [3, 4, 5] [6, 7] [] [] (by kernel_rfl) (by kernel_rfl) (by intro c a d v w h; cases d <;> exact h) (by intro c a d v w h; cases d <;> exact h) rfl (fun r i h => by simp at h) ?_
  simp only [pick, List.filterMap_cons, List.filterMap_nil, List.getElem?_toArray, List.getElem?_cons_succ, List.getElem?_cons_zero]
  intro u15 hu15
  have tf := (hu15.block _ (size_of_block bf)).trans bf
  have ztf := size_of_block tf
  have c0 := Joins.cell_of_block tf 0
  have c1 := Joins.cell_of_block tf 1
  have c2 := Joins.cell_of_block tf 2
  have c3 := Joins.cell_of_block tf 3
  have c4 := Joins.cell_of_block tf 4
  have hcg : ∀ (g : Gr u15) b o, b < u15.heap.size → g.val.cell? ⟨b, o, none⟩ = u15.cell? ⟨b, o, none⟩ := fun g b o h => (bcell g.b).1 b o h
  iterate 1 (refine wpRel_step (fun K hK => ?_); go_simp; refine hK _ ?_; clear hK K)
  refine wpRel_nil fun V15_0 hb15 => ?_
  clear hcg tf ztf c0 c1 c2 c3 c4
  have D0 := below_then hu15 hb15
  clear hb15
  refine wpTr_step rfl rfl fun K hK => ?_
  go_simp
  refine (at_c 10 15 V15_0).mono ?_
  rintro e X ⟨rfl, hx⟩
  refine hK _ _ hx fun V15_1 hu => ?_
  clear hK K
  have D1 := below_then D0 (below_then hx hu)
  clear hx hu D0
  refine wpTr_step rfl rfl fun K hK => ?_
  go_simp
  refine (x_rests (hk.later D1)).mono ?_
  rintro e X ⟨s3, rfl, hs3, hx⟩
  refine hK _ _ hx fun V15_2 hu => ?_
  clear hK K
  replace hs3 := own_below hs3 hu
  have D2 := below_then D1 (below_then hx hu)
  clear hx hu D1
  show wpPure _ _ _ _
  refine wpPure_step (.tuple #[s3, .int .i64 0]) rfl (fun u => rfl) ?_
  refine wpPure_step (s3) rfl (fun u => rfl) ?_
  refine wpPure_step (.int .i64 0) rfl (fun u => rfl) ?_
  intro ks hks _ _
  obtain rfl : ks = [] := List.length_eq_zero_iff.1 hks
  clear hks
  show wpList _ _ _ _ _ _
  simp only [deco]
  replace bf := (D2.block _ (size_of_block bf)).trans bf
  replace bl := (D2.block _ (size_of_block bl)).trans bl
  replace bm := (D2.block _ (size_of_block bm)).trans bm
  replace hk := hk.later D2
  replace hp := hp.later D2
  replace hO := own_below hO D2
  replace hs1 := own_below hs1 D2
  replace hs2 := own_below hs2 D2
  replace hB := below_then hB D2
  clear D2
  go_wp2_with fail
  refine wp_region_looseM [] [0] (.one 1 (.one 2 (.one 3 .done))) [] [4, 5, 6, 7] [8, 9, 10] [] [] (by kernel_rfl) (by kernel_rfl) (by intro c a d v w h; cases d <;> exact h) (by intro c a d v w h; cases d <;> exact h) rfl (fun r i h => by simp at h) ?_
  simp only [pick, List.filterMap_cons, List.filterMap_nil, List.getElem?_toArray, List.getElem?_cons_succ, List.getElem?_cons_zero]
  intro u16 hu16
  have tf := (hu16.block _ (size_of_block bf)).trans bf
  have ztf := size_of_block tf
  have c0 := Joins.cell_of_block tf 0
  have c1 := Joins.cell_of_block tf 1
  have c2 := Joins.cell_of_block tf 2
  have c3 := Joins.cell_of_block tf 3
  have c4 := Joins.cell_of_block tf 4
  have hcg : ∀ (g : Gr u16) b o, b < u16.heap.size → g.val.cell? ⟨b, o, none⟩ = u16.cell? ⟨b, o, none⟩ := fun g b o h => (bcell g.b).1 b o h
  iterate 1 (refine wpRel_step (fun K hK => ?_); go_simp; refine hK _ ?_; clear hK K)
  refine wpRel_nil fun V16_0 hb16 => ?_
  clear hcg tf ztf c0 c1 c2 c3 c4
  have D0 := below_then hu16 hb16
  clear hb16
  refine wpTr_step rfl rfl fun K hK => ?_
  go_simp
  refine (at_c 10 12 V16_0).mono ?_
  rintro e X ⟨rfl, hx⟩
  refine hK _ _ hx fun V16_1 hu => ?_
  clear hK K
  have D1 := below_then D0 (below_then hx hu)
  clear hx hu D0
  refine wpTr_step rfl rfl fun K hK => ?_
  go_simp
  refine (at_c 10 15 V16_1).mono ?_
  rintro e X ⟨rfl, hx⟩
  refine hK _ _ hx fun V16_2 hu => ?_
  clear hK K
  have D2 := below_then D1 (below_then hx hu)
  clear hx hu D1
  refine wpTr_step rfl rfl fun K hK => ?_
  go_simp
  refine (x_needed (hk.later D2)).mono ?_
  rintro e X ⟨rfl, hx⟩
  refine hK _ _ hx fun V16_3 hu => ?_
  clear hK K
  have D3 := below_then D2 (below_then hx hu)
  clear hx hu D2
  show wpPure _ _ _ _
  refine wpPure_step (.tuple #[.int .i64 930, .bool true, .int .i64 0]) rfl (fun u => rfl) ?_
  refine wpPure_step (.int .i64 930) rfl (fun u => rfl) ?_
  refine wpPure_step (.bool true) rfl (fun u => rfl) ?_
  refine wpPure_step (.int .i64 0) rfl (fun u => rfl) ?_
  intro ks hks _ _
  obtain rfl : ks = [] := List.length_eq_zero_iff.1 hks
  clear hks
  show wpList _ _ _ _ _ _
  simp only [deco]
  replace bf := (D3.block _ (size_of_block bf)).trans bf
  replace bl := (D3.block _ (size_of_block bl)).trans bl
  replace bm := (D3.block _ (size_of_block bm)).trans bm
  replace hk := hk.later D3
  replace hp := hp.later D3
  replace hO := own_below hO D3
  replace hs1 := own_below hs1 D3
  replace hs2 := own_below hs2 D3
  replace hs3 := own_below hs3 D3
  replace hB := below_then hB D3
  clear D3
  go_wp2_with fail
  refine wp_region_looseM [3] [0, 1] (.one 2 (.one 4 (.one 5 .done))) [] [] [6, 7, 8] [] [] (by kernel_rfl) (by kernel_rfl) (by intro c a d v w h; cases d <;> exact h) (by intro c a d v w h; cases d <;> exact h) rfl (fun r i h => by simp at h) ?_
  simp only [pick, List.filterMap_cons, List.filterMap_nil, List.getElem?_toArray, List.getElem?_cons_succ, List.getElem?_cons_zero]
  refine wpPure_step (.agg #[.int .i64 600, .int .i64 650]) rfl (fun u => by first | rfl | kernel_rfl | simp [execOp, go_sem]) ?_
  intro u17 hu17
  have tf := (hu17.block _ (size_of_block bf)).trans bf
  have ztf := size_of_block tf
  have c0 := Joins.cell_of_block tf 0
  have c1 := Joins.cell_of_block tf 1
  have c2 := Joins.cell_of_block tf 2
  have c3 := Joins.cell_of_block tf 3
  have c4 := Joins.cell_of_block tf 4
  have hcg : ∀ (g : Gr u17) b o, b < u17.heap.size → g.val.cell? ⟨b, o, none⟩ = u17.cell? ⟨b, o, none⟩ := fun g b o h => (bcell g.b).1 b o h
  iterate 2 (refine wpRel_step (fun K hK => ?_); go_simp; refine hK _ ?_; clear hK K)
  refine wpRel_nil fun V17_0 hb17 => ?_
  clear hcg tf ztf c0 c1 c2 c3 c4
  have D0 := below_then hu17 hb17
  clear hb17
  refine wpTr_step rfl rfl fun K hK => ?_
  go_simp
  refine (at_c 10 6 V17_0).mono ?_
  rintro e X ⟨rfl, hx⟩
  refine hK _ _ hx fun V17_1 hu => ?_
  clear hK K
  have D1 := below_then D0 (below_then hx hu)
  clear hx hu D0
  refine wpTr_step rfl rfl fun K hK => ?_
  go_simp
  refine hK _ _ (Below.refl _ _) fun V17_2 hu => ?_
  clear hK K
  have D2 := below_then D1 hu
  clear hu D1
  refine wpTr_step rfl rfl fun K hK => ?_
  go_simp
  refine hK _ _ (below_alloc _ _) fun V17_3 hu => ?_
  clear hK K
  have yn := (hu.block _ (by simp)).trans (heap_alloc_new V17_2 (.cells #[.int .i64 4, .int .i64 10, .int .i64 6, .int .i64 600, .int .i64 650] 90))
  have D3 := below_then D2 (below_then (below_alloc V17_2 (.cells #[.int .i64 4, .int .i64 10, .int .i64 6, .int .i64 600, .int .i64 650] 90)) hu)
  clear hu D2
  show wpPure _ _ _ _
  intro ks hks _ _
  obtain rfl : ks = [] := List.length_eq_zero_iff.1 hks
  clear hks
  show wpList _ _ _ _ _ _
  simp only [deco]
  replace bf := (D3.block _ (size_of_block bf)).trans bf
  replace bl := (D3.block _ (size_of_block bl)).trans bl
  replace bm := (D3.block _ (size_of_block bm)).trans bm
  replace hk := hk.later D3
  replace hp := hp.later D3
  replace hO := own_below hO D3
  replace hs1 := own_below hs1 D3
  replace hs2 := own_below hs2 D3
  replace hs3 := own_below hs3 D3
  replace hB := below_then hB D3
  clear D3
  refine wpList_append_own _ rfl (.tmp 164) (.tmp 168) 22 rfl w.heap.size 90 i0 (.agg #[.int .i64 0, .int .i64 0, .int .i64 0, .int .i64 0, .int .i64 0]) 5 40 Tryz.underlying22 HI.out HI0.out HI1.out HI2.out rfl (by decide) _ _ _ rfl hO ⟨_, 0, none⟩ 1 1 #[.int .i64 4, .int .i64 10, .int .i64 6, .int .i64 600, .int .i64 650].toList rfl rfl ?c1 ?c2 ?c3 ?c4 ?c5 ?_
  case c1 =>
    intro j u hj
    have h9 := Joins.cell_of_block yn j
    rw [← Array.getElem?_toList, hj] at h9
    by_cases h0 : j = 0
    · subst h0; simpa [Addr.add] using h9
    · simpa [Addr.add, h0] using h9
  case c2 => intro u hu; simp at hu; rcases hu with rfl | rfl | rfl | rfl | rfl <;> rfl
  case c3 => decide
  case c4 => decide
  case c5 => exact hB.size
  intro v4 w4 hown4 hgrow _
  replace hown4 : w4.ownsRow w.heap.size 90 5 v4 4 (kiln4.ls.flatMap lkC) := hown4
  obtain ⟨A4, cap4, rfl⟩ := own_form hown4
  have bf4 := (hgrow.block _ (size_of_block bf) (Ne.symm (own_ne_block hO bf (by decide)))).trans bf
  have bl4 := (hgrow.block _ (size_of_block bl) (Ne.symm (own_ne_block hO bl (by decide)))).trans bl
  have bm4 := (hgrow.block _ (size_of_block bm) (Ne.symm (own_ne_block hO bm (by decide)))).trans bm
  have hs14 := hs1.kept hgrow (.inr (own_apart hO hs1 rfl (by decide)))
  have hs24 := hs2.kept hgrow (.inr (own_apart hO hs2 rfl (by decide)))
  have hs34 := hs3.kept hgrow (.inr (own_apart hO hs3 rfl (by decide)))
  have hB4 := below_own hB hB.size hO hgrow
  clear hgrow hk hp bf bl bm hs1 hs2 hs3 hB hO yn
  have f4 := Joins.unfrozen_of_block bf4 4
  have s4 := Joins.cell_of_block bf4 4
  have bf := Joins.block_setCell (i := 4) bf4 (.slice A4 4 cap4)
  have bl := (put_other (i := 4) (.slice A4 4 cap4) (show w12.heap.size ≠ w1.heap.size by omega)).trans bl4
  have bm := (put_other (i := 4) (.slice A4 4 cap4) (show w12.heap.size + 1 ≠ w1.heap.size by omega)).trans bm4
  have hs1 := own_setCell hs14 4 (.slice A4 4 cap4) (own_ne_block hs14 bf4 (by decide))
  have hs2 := own_setCell hs24 4 (.slice A4 4 cap4) (own_ne_block hs24 bf4 (by decide))
  have hs3 := own_setCell hs34 4 (.slice A4 4 cap4) (own_ne_block hs34 bf4 (by decide))
  have hO := own_setCell hown4 4 (.slice A4 4 cap4) (own_ne_block hown4 bf4 (by decide))
  have hB := below_set (i := 4) (v := .slice A4 4 cap4) hB4 hfg
  clear bf4 bl4 bm4 hs14 hs24 hs34 hown4 hB4
  obtain ⟨w5, hw5⟩ : ∃ W, W = w4.setCell ⟨w1.heap.size, 4, none⟩ (.slice A4 4 cap4) := ⟨_, rfl⟩
  rw [← hw5] at bf bl bm hs1 hs2 hs3 hO hB
  have hk : Lks w5 w5.heap.size (.slice A4 4 cap4) kiln4.ls := Sl.of_own lkC_len hO (by simp [kiln4])
  clear hO
  have c0 := Joins.cell_of_block bf 0
  have c1 := Joins.cell_of_block bf 1
  have c2 := Joins.cell_of_block bf 2
  have c3 := Joins.cell_of_block bf 3
  have c4 := Joins.cell_of_block bf 4
  rw [hw5] at c0 c1 c2 c3 c4
  have HW := Lib.hid hw5
  clear hw5
  show wpList _ _ _ _ _ _
  go_wp2_with fail
  rw [← HW.out]
  clear f4 s4 HW
  refine (x_clash4 hk).mono ?_
  rintro e w18 ⟨rfl, hF18⟩
  replace bf := (hF18.block _ (size_of_block bf)).trans bf
  replace bl := (hF18.block _ (size_of_block bl)).trans bl
  replace bm := (hF18.block _ (size_of_block bm)).trans bm
  replace hk := hk.later hF18
  replace hs1 := own_below hs1 hF18
  replace hs2 := own_below hs2 hF18
  replace hs3 := own_below hs3 hF18
  replace hB := below_then hB hF18
  clear hF18
  clear c0 c1 c2 c3 c4
  have c0 := Joins.cell_of_block bf 0
  have c1 := Joins.cell_of_block bf 1
  have c2 := Joins.cell_of_block bf 2
  have c3 := Joins.cell_of_block bf 3
  have c4 := Joins.cell_of_block bf 4
  go_wp2_with fail
  refine (x_susp4 hk).mono ?_
  rintro e w19 ⟨s4v, rfl, hs4v, hF19⟩
  replace bf := (hF19.block _ (size_of_block bf)).trans bf
  replace bl := (hF19.block _ (size_of_block bl)).trans bl
  replace bm := (hF19.block _ (size_of_block bm)).trans bm
  replace hk := hk.later hF19
  replace hs1 := own_below hs1 hF19
  replace hs2 := own_below hs2 hF19
  replace hs3 := own_below hs3 hF19
  replace hB := below_then hB hF19
  clear hF19
  clear c0 c1 c2 c3 c4
  have bl0 := Joins.cell_of_block bl 0
  have bl1 := Joins.cell_of_block bl 1
  have bl2 := Joins.cell_of_block bl 2
  have bm0 := Joins.cell_of_block bm 0
  have bm1 := Joins.cell_of_block bm 1
  have bm2 := Joins.cell_of_block bm 2
  go_wp2_with fail
  have hA := below_alloc w19 (.cells #[.int .i64 1, .int .i64 2] 54)
  refine (sameS_t (Sl.of_own spnC_len (own_below hs1 hA) (by simp)) (builtL spnC_len w19 [⟨1, 2⟩] 54 _ _ 1 rfl (by simp) rfl rfl)).mono ?_
  rintro e w20 ⟨rfl, hb⟩
  have HB := below_then hA hb
  replace bf := (HB.block _ (size_of_block bf)).trans bf
  replace bl := (HB.block _ (size_of_block bl)).trans bl
  replace bm := (HB.block _ (size_of_block bm)).trans bm
  replace hk := hk.later HB
  replace hs1 := own_below hs1 HB
  replace hs2 := own_below hs2 HB
  replace hs3 := own_below hs3 HB
  replace hs4v := own_below hs4v HB
  replace hB := below_then hB HB
  clear HB hA hb
  clear bl0 bl1 bl2
  clear bm0 bm1 bm2
  go_wp2_with fail
  have hA := below_alloc w20 (.cells #[.int .i64 1, .int .i64 2] 54)
  refine (sameS_t (Sl.of_own spnC_len (own_below hs2 hA) (by simp)) (builtL spnC_len w20 [⟨1, 2⟩] 54 _ _ 1 rfl (by simp) rfl rfl)).mono ?_
  rintro e w21 ⟨rfl, hb⟩
  have HB := below_then hA hb
  replace bf := (HB.block _ (size_of_block bf)).trans bf
  replace bl := (HB.block _ (size_of_block bl)).trans bl
  replace bm := (HB.block _ (size_of_block bm)).trans bm
  replace hk := hk.later HB
  replace hs1 := own_below hs1 HB
  replace hs2 := own_below hs2 HB
  replace hs3 := own_below hs3 HB
  replace hs4v := own_below hs4v HB
  replace hB := below_then hB HB
  clear HB hA hb
  go_wp2_with fail
  have hA := below_alloc w21 (.cells #[.int .i64 3] 3)
  refine (sameI_t (Ints.of_own (l := [3]) (own_below hs3 hA) (by simp)) (builtL nC_len w21 [3] 3 _ _ 1 rfl (by simp) rfl rfl)).mono ?_
  rintro e w22 ⟨rfl, hb⟩
  have HB := below_then hA hb
  replace bf := (HB.block _ (size_of_block bf)).trans bf
  replace bl := (HB.block _ (size_of_block bl)).trans bl
  replace bm := (HB.block _ (size_of_block bm)).trans bm
  replace hk := hk.later HB
  replace hs1 := own_below hs1 HB
  replace hs2 := own_below hs2 HB
  replace hs3 := own_below hs3 HB
  replace hs4v := own_below hs4v HB
  replace hB := below_then hB HB
  clear HB hA hb
  go_wp2_with fail
  have hA := below_alloc w22 (.cells #[.int .i64 4] 3)
  refine (sameI_t (Ints.of_own (l := [4]) (own_below hs4v hA) (by simp)) (builtL nC_len w22 [4] 3 _ _ 1 rfl (by simp) rfl rfl)).mono ?_
  rintro e w23 ⟨rfl, hb⟩
  have HB := below_then hA hb
  replace bf := (HB.block _ (size_of_block bf)).trans bf
  replace bl := (HB.block _ (size_of_block bl)).trans bl
  replace bm := (HB.block _ (size_of_block bm)).trans bm
  replace hk := hk.later HB
  replace hs1 := own_below hs1 HB
  replace hs2 := own_below hs2 HB
  replace hs3 := own_below hs3 HB
  replace hs4v := own_below hs4v HB
  replace hB := below_then hB HB
  clear HB hA hb
  go_wp2_with fail
  go_ret
  exact ⟨rfl, hB⟩
end Go.Proofs.YtjpoacffnpgjdaaGreat
/- What the laws of fire ask first: few. -/
namespace Go.Proofs.YtjpoacffnpgjdaaGreat
open Go Go.RowKit Go.Shelf

def fewB (n : Nat) : Bool := decide (n ≤ 12) || (decide (24 < n) && decide (n ≤ 40))
theorem few_c (f : Fi) (A : Option Addr) (n cap : Nat) (w : World) : Calls Tryz.prog 8 #[fiV f (.slice A n cap)] w fun e w' => e = .returned (.bool (fewB n)) ∧ Below w.heap.size w w' := by
  unfold fiV fewB
  by_cases h1 : n ≤ 12
  · have d1 : decide ((n : Int) ≤ 12) = true := decide_eq_true (by omega)
    rw [decide_eq_true h1, Bool.true_or]
    clear h1
    go_enter Tryz.func8, Tryz.ntmps8
    go_wp2
    go_ret
    exact ⟨rfl, below_alloc _ _⟩
  · have d1 : decide ((n : Int) ≤ 12) = false := decide_eq_false (by omega)
    rw [decide_eq_false h1, Bool.false_or]
    by_cases h2 : 24 < n
    · have d2 : decide ((n : Int) > 24) = true := decide_eq_true (by omega)
      rw [decide_eq_true h2, Bool.true_and]
      by_cases h3 : n ≤ 40
      · have d3 : decide ((n : Int) ≤ 40) = true := decide_eq_true (by omega)
        rw [decide_eq_true h3]
        clear h1 h2 h3
        go_enter Tryz.func8, Tryz.ntmps8
        go_wp2
        go_ret
        exact ⟨rfl, below_alloc _ _⟩
      · have d3 : decide ((n : Int) ≤ 40) = false := decide_eq_false (by omega)
        rw [decide_eq_false h3]
        clear h1 h2 h3
        go_enter Tryz.func8, Tryz.ntmps8
        go_wp2
        go_ret
        exact ⟨rfl, below_alloc _ _⟩
    · have d2 : decide ((n : Int) > 24) = false := decide_eq_false (by omega)
      rw [decide_eq_false h2, Bool.false_and]
      clear h1 h2
      go_enter Tryz.func8, Tryz.ntmps8
      go_wp2
      go_ret
      exact ⟨rfl, below_alloc _ _⟩
theorem few_len {n : Nat} (h : fewB n = true) : n ≤ 40 := by
  unfold fewB at h
  simp only [Bool.or_eq_true, Bool.and_eq_true, decide_eq_true_eq] at h
  omega
theorem few_big {n : Nat} (h : 40 < n) : fewB n = false := by
  cases hf : fewB n with
  | false => rfl
  | true => have := few_len hf; omega
theorem ids_len (P : Lk → Bool) (ls : List Lk) : (idsI P ls).length ≤ ls.length := by
  unfold idsI
  rw [(putAll_spec _).1.length_eq, List.length_map]
  exact List.length_filter_le _ _
theorem susp_len {f : Fi} (h : FireOk f) : (suspR f).length ≤ 24 := by
  unfold suspR suspL
  rw [if_pos (ok_fire h)]
  split
  · simp
  · exact Nat.le_trans (ids_len _ _) h.len
theorem rests_len {f : Fi} (h : FireOk f) (p : Spt) : (restsR f p).length ≤ 24 := by
  unfold restsR restL
  split
  · exact Nat.le_trans (ids_len _ _) h.len
  · simp
end Go.Proofs.YtjpoacffnpgjdaaGreat
/- What the laws of fire with the reference ask of a list of spots first: short. -/
namespace Go.Proofs.YtjpoacffnpgjdaaGreat
open Go Go.RowKit Go.Shelf
def shortB (n : Nat) : Bool := decide (n ≤ 12) || (decide (24 < n) && decide (n ≤ 40))
theorem short_c (A : Option Addr) (n cap : Nat) (w : World) : Calls Tryz.prog 30 #[.slice A n cap] w fun e w' => e = .returned (.bool (shortB n)) ∧ w = w' := by
  unfold shortB
  by_cases h1 : n ≤ 12
  · have d1 : decide ((n : Int) ≤ 12) = true := decide_eq_true (by omega)
    rw [decide_eq_true h1, Bool.true_or]
    clear h1
    go_enter Tryz.func30, Tryz.ntmps30
    go_wp2
    go_ret
    exact ⟨rfl, rfl⟩
  · have d1 : decide ((n : Int) ≤ 12) = false := decide_eq_false (by omega)
    rw [decide_eq_false h1, Bool.false_or]
    by_cases h2 : 24 < n
    · have d2 : decide ((n : Int) > 24) = true := decide_eq_true (by omega)
      rw [decide_eq_true h2, Bool.true_and]
      by_cases h3 : n ≤ 40
      · have d3 : decide ((n : Int) ≤ 40) = true := decide_eq_true (by omega)
        rw [decide_eq_true h3]
        clear h1 h2 h3
        go_enter Tryz.func30, Tryz.ntmps30
        go_wp2
        go_ret
        exact ⟨rfl, rfl⟩
      · have d3 : decide ((n : Int) ≤ 40) = false := decide_eq_false (by omega)
        rw [decide_eq_false h3]
        clear h1 h2 h3
        go_enter Tryz.func30, Tryz.ntmps30
        go_wp2
        go_ret
        exact ⟨rfl, rfl⟩
    · have d2 : decide ((n : Int) > 24) = false := decide_eq_false (by omega)
      rw [decide_eq_false h2, Bool.false_and]
      clear h1 h2
      go_enter Tryz.func30, Tryz.ntmps30
      go_wp2
      go_ret
      exact ⟨rfl, rfl⟩
end Go.Proofs.YtjpoacffnpgjdaaGreat
/- The reference's Burn (for the seat of the laws with the reference). -/
namespace Go.Proofs.YtjpoacffnpgjdaaGreat
open Go Go.RowKit Go.Shelf
attribute [local go_sem] Oper.semAt_some Rel RelAt RelUpon

theorem burn_rowZ (need : Int) (l : List Int) : 0 ≤ (burnF need l).row ∧ (burnF need l).row ≤ l.length ∧ 0 ≤ (burnF need l).b.row ∧ (burnF need l).b.row ≤ l.length := by
  refine snoc_ind (M := fun l => 0 ≤ (burnF need l).row ∧ (burnF need l).row ≤ l.length ∧ 0 ≤ (burnF need l).b.row ∧ (burnF need l).b.row ≤ l.length) (by simp [burnF]) (fun l x ih => ?_) l
  rw [burnF_snoc, List.length_append]
  unfold burnStep
  simp only [List.length_cons, List.length_nil]
  by_cases c : x < need
  · rw [if_pos c]; dsimp only; omega
  · rw [if_neg c]; dsimp only; omega
set_option maxRecDepth 100000 in
set_option maxHeartbeats 4000000 in
theorem BurnR2_c (v : Value) (hs : List Int) (need : Int) (w : World) (hv : Ints w w.heap.size v hs) (hlen : hs.length ≤ 5000) (hr : ∀ x ∈ hs, 0 ≤ x ∧ x ≤ 1500) (hn : 0 ≤ need ∧ need ≤ 1500) :
    Calls Tryz.prog 98 #[v, .int .i64 need] w fun e w' => e = .returned (brnV (burnI hs need)) ∧ Below w.heap.size w w' := by
  obtain ⟨A, cap, rfl, _, hn2, hat⟩ := hv.open_
  have H := Lib.hid hat
  clear hat hv
  have HBD := Lib.hid (fun j : Nat => burn_bounds need hn (hs.take j) fun x hx => hr x (List.mem_of_mem_take hx))
  have HBR := Lib.hid (fun j : Nat => burn_rowZ need (hs.take j))
  have HRI := Lib.hid hr
  clear hr
  obtain ⟨q0, q1, -, qb⟩ := two_new' w (.cells #[.int .i64 0, .int .i64 0, .int .i64 0] 74) (.cells #[.int .i64 0, .int .i64 0, .int .i64 0] 74)
  go_enter Tryz.func98, Tryz.ntmps98
  go_wp2_with fail
  generalize (w.alloc _).alloc _ = W2 at q0 q1 qb ⊢
  go_loopw [6, 7] (fun row i wr => ∃ j : Nat, j ≤ hs.length ∧ i = .int .i64 j ∧ row = .int .i64 (burnF need (hs.take j)).row ∧ wr.heap[w.heap.size + 1]? = some (.cells #[.int .i64 (burnF need (hs.take j)).b.hours, .int .i64 (burnF need (hs.take j)).b.row, .int .i64 (burnF need (hs.take j)).b.sum] 74) ∧ wr.heap[w.heap.size]? = some (.cells #[.int .i64 0, .int .i64 0, .int .i64 0] 74) ∧ Below w.heap.size w wr) (fun _ i _ => hs.length - (intOf i).toNat)
  case atStart => exact ⟨0, Nat.zero_le _, rfl, rfl, by simpa [burnF] using q1, q0, qb⟩
  case round =>
    clear q0 q1 qb
    obtain ⟨j, hj, rfl, rfl, hbk, hzb, hbw⟩ := hrel
    have hbd := HBD.out j
    have hbr := HBR.out j
    have zb1 := size_of_block hbk
    by_cases hlt : j < hs.length
    · obtain ⟨b, off, x, rfl, hb, hx0, c0⟩ := H.out j hlt
      have hxr := HRI.out x (List.mem_of_getElem? hx0)
      have d0 := (hbw.cell (p := ⟨b, off + j, none⟩) hb).trans c0
      have hz1 : b < wr.heap.size := Nat.lt_of_lt_of_le hb hbw.size
      have hst : Hid (burnF need (hs.take (j + 1)) = burnStep need (burnF need (hs.take j)) x) := by show _ = _; rw [take_snoc hx0, burnF_snoc]
      have htl : (hs.take j).length = j := by rw [List.length_take]; omega
      rw [htl] at hbd hbr
      clear htl hx0
      obtain ⟨F, hF⟩ : ∃ s, s = burnF need (hs.take j) := ⟨_, rfl⟩
      rw [← hF] at hbd hbr hbk hst ⊢
      clear hF
      obtain ⟨row, ⟨HH, RR, SS⟩⟩ := F
      simp only at hbd hbr hbk ⊢
      obtain ⟨hb1, hb2, hb3, hb4⟩ := hbd
      obtain ⟨hr1, hr2, hr3, hr4⟩ := hbr
      by_cases hc : x < need
      · have d1 : decide (x < need) = true := decide_eq_true hc
        have hz : Hid (burnF need (hs.take (j + 1)) = ⟨0, ⟨HH, RR, SS⟩⟩) := by show _ = _; rw [hst.out]; unfold burnStep; rw [if_pos hc]
        clear hc hst
        go_wp2_with fail
        go_roundw
        case rel => exact ⟨j + 1, by omega, by go_num, by rw [hz.out], by rw [hz.out]; exact hbk, hzb, hbw⟩
        case measure => simp [intOf]; omega
      · have d1 : decide (x < need) = false := decide_eq_false hc
        have hz : Hid (burnF need (hs.take (j + 1)) = ⟨row + 1, ⟨HH + 1, max RR (row + 1), SS + x - need⟩⟩) := by show _ = _; rw [hst.out]; unfold burnStep; rw [if_neg hc]
        have hj5 : (j : Int) ≤ 5000 := by omega
        have n1 : b ≠ w.heap.size + 1 := by omega
        have hmx : 0 ≤ max RR (row + 1) ∧ max RR (row + 1) ≤ 5001 := by omega
        have HMX := Lib.hid hmx
        have k0 := Joins.block_setCell (i := 0) hbk (.int .i64 (HH + 1))
        have k1 := Joins.block_setCell (i := 1) k0 (.int .i64 (max RR (row + 1)))
        have e0 := Joins.cell_of_block hbk 0
        have f0 := Joins.unfrozen_of_block hbk 0
        have e1 := Joins.cell_of_block k0 1
        have f1 := Joins.unfrozen_of_block k0 1
        clear hst hmx
        go_wp2_with fail
        have kz := (put_other (b := w.heap.size + 1) (i := 1) (.int .i64 (max RR (row + 1))) (show w.heap.size ≠ w.heap.size + 1 by omega)).trans ((put_other (b := w.heap.size + 1) (i := 0) (.int .i64 (HH + 1)) (show w.heap.size ≠ w.heap.size + 1 by omega)).trans hzb)
        have B5 := below_set (i := 1) (v := .int .i64 (max RR (row + 1))) (below_set (i := 0) (v := .int .i64 (HH + 1)) hbw (show w.heap.size ≤ w.heap.size + 1 by omega)) (show w.heap.size ≤ w.heap.size + 1 by omega)
        clear e0 f0 e1 f1 k0 hbk hzb hbw d0
        generalize (wr.setCell _ _).setCell _ _ = W5 at k1 kz B5 ⊢
        generalize max RR (row + 1) = M at k1 hz HMX ⊢
        have k2 : W5.heap[w.heap.size + 1]? = some (.cells #[.int .i64 (HH + 1), .int .i64 M, .int .i64 SS] 74) := by simpa using k1
        have zb5 := size_of_block k2
        refine wp_region_looseM [] [0, 1, 2, 3, 4, 5, 6, 7, 8] .done [] [] [9, 10] [] [] (by kernel_rfl) (by kernel_rfl) (by intro c a d v w h; cases d <;> exact h) (by intro c a d v w h; cases d <;> exact h) rfl (fun r i h => by simp at h) ?_
        simp only [pick, List.filterMap_cons, List.filterMap_nil, List.getElem?_toArray, List.getElem?_cons_succ, List.getElem?_cons_zero]
        intro u hu
        have t2 := (hu.block _ zb5).trans k2
        have zt2 := size_of_block t2
        have s2 := Joins.cell_of_block t2 2
        have hbu : b < u.heap.size := by have := hu.size; have := B5.size; omega
        have e0 := (hu.cell (p := ⟨b, off + j, none⟩) (by show b < W5.heap.size; have := B5.size; omega)).trans ((B5.cell (p := ⟨b, off + j, none⟩) hb).trans c0)
        have hcg : ∀ (g : Gr u) b o, b < u.heap.size → g.val.cell? ⟨b, o, none⟩ = u.cell? ⟨b, o, none⟩ := fun g b o h => (bcell g.b).1 b o h
        have hs1 : IntKind.i64.wrap (SS + x) = SS + x := by rw [IntKind.wrap_i64]; omega
        have hs2 : IntKind.i64.wrap (SS + x - need) = SS + x - need := by rw [IntKind.wrap_i64]; omega
        iterate 9 (refine wpRel_step (fun K hK => ?_); go_simp; refine hK _ ?_; clear hK K)
        refine wpRel_nil fun V0 hb0 => ?_
        clear hcg s2 e0 hbu zt2 t2 hs1 hs2
        have D0 := below_then hu hb0
        have v2 := (D0.block _ zb5).trans k2
        have vz := (D0.block _ (size_of_block kz)).trans kz
        have B6 := below_then B5 D0
        clear D0 hu hb0 k1 k2 kz B5 zb5
        have f2 := Joins.unfrozen_of_block v2 2
        have s2 := Joins.cell_of_block v2 2
        have zv := size_of_block v2
        show wpPure _ _ _ _
        intro ks hks _ _
        obtain rfl : ks = [] := List.length_eq_zero_iff.1 hks
        clear hks
        show wpList _ _ _ _ _ _
        simp only [deco]
        go_wp2_with fail
        go_roundw
        case rel =>
          refine ⟨j + 1, by omega, by go_num, by rw [hz.out], ?_, ?_, below_set B6 (by omega)⟩
          · rw [hz.out]
            have k := Joins.block_setCell (i := 2) v2 (.int .i64 (SS + x - need))
            simpa using k
          · exact (put_other _ (by omega)).trans vz
        case measure => simp [intOf]; omega
    · obtain rfl : j = hs.length := by omega
      rw [List.take_length] at hbk
      have e0 := Joins.cell_of_block hbk 0
      have e1 := Joins.cell_of_block hbk 1
      have e2 := Joins.cell_of_block hbk 2
      clear hbd hbr
      have HP := Lib.hid (fun j : Nat => cell_setRow_same wr w.heap.size j _ #[.int .i64 (burnF need hs).b.hours, .int .i64 (burnF need hs).b.row, .int .i64 (burnF need hs).b.sum] _ _ hzb)
      have BF := below_setRow hbw (Nat.le_refl w.heap.size) #[.int .i64 (burnF need hs).b.hours, .int .i64 (burnF need hs).b.row, .int .i64 (burnF need hs).b.sum]
      go_wp2_with (refine wpList_store_rowTo rfl 74 _ _ rfl rfl w.heap.size #[.int .i64 (burnF need hs).b.hours, .int .i64 (burnF need hs).b.row, .int .i64 (burnF need hs).b.sum] rfl rfl 74 _ hzb (by kernel_rfl) rfl (by kernel_rfl) ?_)
      refine bodyPost_ret (v := .agg #[.int .i64 (burnF need hs).b.hours, .int .i64 (burnF need hs).b.row, .int .i64 (burnF need hs).b.sum]) ?_ rfl ⟨rfl, BF⟩
      simp [results, Tryz.results98, go_sem, HP.out]
end Go.Proofs.YtjpoacffnpgjdaaGreat
