/- The chapter's examples of fire, by the calls of the program: what sanity asks. -/
import Derived.Test.YtjpoacffnpgjdaaJ18
import Derived.Test.YtjpoacffnpgjdaaJ17
import Derived.Test.YtjpoacffnpgjdaaJ19
import Derived.Test.YtjpoacffnpgjdaaJ26
import Derived.Test.YtjpoacffnpgjdaaJ4
namespace Go.Proofs.Ytjpoacffnpgjdaa
open Go Go.RowKit Go.Shelf

def kilnF : Fi := ⟨20, 10, 5, 30, [⟨1, 10, 5, 800, 900⟩, ⟨2, 12, 8, 700, 850⟩, ⟨3, 10, 20, 950, 1000⟩]⟩
def kiln4 : Fi := ⟨20, 10, 5, 30, [⟨1, 10, 5, 800, 900⟩, ⟨2, 12, 8, 700, 850⟩, ⟨3, 10, 20, 950, 1000⟩, ⟨4, 10, 6, 600, 650⟩]⟩
def pathF : List Spt := [⟨10, 14⟩, ⟨10, 15⟩, ⟨10, 16⟩]
theorem ex_far : farR kilnF ⟨10, 5⟩ ⟨12, 8⟩ = 70 ∧ farE kilnF ⟨10, 5⟩ ⟨12, 8⟩ = 0 := ⟨by kernel_rfl, by kernel_rfl⟩
theorem ex_far2 : farR kilnF ⟨12, 8⟩ ⟨10, 5⟩ = 90 ∧ farE kilnF ⟨12, 8⟩ ⟨10, 5⟩ = 0 := ⟨by kernel_rfl, by kernel_rfl⟩
theorem ex_clash : clashR kilnF = ⟨0, 0, false⟩ ∧ fireI kilnF = 0 := ⟨by kernel_rfl, by kernel_rfl⟩
theorem ex_ends1 : endsR kilnF ⟨10, 10⟩ = ⟨750, 950, 1, 2⟩ ∧ endsE kilnF ⟨10, 10⟩ = 0 := ⟨by kernel_rfl, by kernel_rfl⟩
theorem ex_ends2 : endsR kilnF ⟨10, 15⟩ = ⟨850, 1050, 3, 2⟩ ∧ endsE kilnF ⟨10, 15⟩ = 0 := ⟨by kernel_rfl, by kernel_rfl⟩
theorem ex_ends3 : endsR kilnF ⟨50, 5⟩ = ⟨0, 1070, 0, 2⟩ ∧ endsE kilnF ⟨50, 5⟩ = 0 := ⟨by kernel_rfl, by kernel_rfl⟩
theorem ex_burnt : leastR kilnF pathF 900 = ⟨0, 0, 0⟩ ∧ mostR kilnF pathF 900 = ⟨3, 3, 420⟩ ∧ sunkE kilnF pathF 900 = 0 := ⟨by kernel_rfl, by kernel_rfl, by kernel_rfl⟩
theorem ex_surely : surelyR kilnF pathF 840 = [⟨1, 2⟩] ∧ sunkE kilnF pathF 840 = 0 := ⟨by kernel_rfl, by kernel_rfl⟩
theorem ex_possibly : possiblyR kilnF pathF 1040 = [⟨1, 2⟩] ∧ sunkE kilnF pathF 1040 = 0 := ⟨by kernel_rfl, by kernel_rfl⟩
theorem ex_rests : restsR kilnF ⟨10, 15⟩ = [3] ∧ endsE kilnF ⟨10, 15⟩ = 0 := ⟨by kernel_rfl, by kernel_rfl⟩
theorem ex_needed : neededR kilnF ⟨10, 12⟩ ⟨10, 15⟩ 900 = (930, true) ∧ needE kilnF ⟨10, 12⟩ ⟨10, 15⟩ 900 = 0 := ⟨by kernel_rfl, by kernel_rfl⟩
theorem ex_clash4 : clashR kiln4 = ⟨4, 1, true⟩ ∧ fireI kiln4 = 0 := ⟨by kernel_rfl, by kernel_rfl⟩
theorem ex_susp4 : suspR kiln4 = [4] ∧ fireI kiln4 = 0 := ⟨by kernel_rfl, by kernel_rfl⟩
theorem at_c (a b : Int) (w : World) : Calls Try.prog 35 #[.int .i64 a, .int .i64 b] w fun e w' => e = .returned (.agg #[.int .i64 a, .int .i64 b]) ∧ Below w.heap.size w w' := by
  go_enter Try.func35, Try.ntmps35
  have q0 := heap_alloc_new w (.cells #[.int .i64 a, .int .i64 b] 42)
  have e0 := Joins.cell_of_block q0 0
  have e1 := Joins.cell_of_block q0 1
  go_wp2
  refine bodyPost_ret (v := .agg #[.int .i64 a, .int .i64 b]) ?_ rfl ⟨rfl, below_alloc _ _⟩
  simp [results, Try.results35, go_sem, e0, e1]
set_option maxRecDepth 100000 in
set_option maxHeartbeats 2000000 in
theorem Kiln_c (w : World) : Calls Try.prog 34 #[] w fun e w' => ∃ v, e = .returned (.agg #[.int .i64 20, .int .i64 10, .int .i64 5, .int .i64 30, v]) ∧ w'.ownsRow w.heap.size 55 5 v 3 (kilnF.ls.flatMap lkC) ∧ Below w.heap.size w w' := by
  go_enter Try.func34, Try.ntmps34
  go_wp2_with fail
  obtain ⟨q0, q1, qs, qb⟩ := two_new' w (.cells #[.int .i64 20, .int .i64 10, .int .i64 5, .int .i64 30, .slice (some ⟨w.heap.size + 1, 0, none⟩) 3 3] 24) (.cells #[.int .i64 1, .int .i64 10, .int .i64 5, .int .i64 800, .int .i64 900, .int .i64 2, .int .i64 12, .int .i64 8, .int .i64 700, .int .i64 850, .int .i64 3, .int .i64 10, .int .i64 20, .int .i64 950, .int .i64 1000] 55)
  have hO := World.ownsRow_lit (base := w.heap.size) (e := 55) (size := 5) (w.alloc (.cells #[.int .i64 20, .int .i64 10, .int .i64 5, .int .i64 30, .slice (some ⟨w.heap.size + 1, 0, none⟩) 3 3] 24)) #[.int .i64 1, .int .i64 10, .int .i64 5, .int .i64 800, .int .i64 900, .int .i64 2, .int .i64 12, .int .i64 8, .int .i64 700, .int .i64 850, .int .i64 3, .int .i64 10, .int .i64 20, .int .i64 950, .int .i64 1000] 3 (by simp) (by decide) rfl
  rw [World.size_alloc] at hO
  have e0 := Joins.cell_of_block q0 0
  have e1 := Joins.cell_of_block q0 1
  have e2 := Joins.cell_of_block q0 2
  have e3 := Joins.cell_of_block q0 3
  have e4 := Joins.cell_of_block q0 4
  refine bodyPost_ret (v := .agg #[.int .i64 20, .int .i64 10, .int .i64 5, .int .i64 30, .slice (some ⟨w.heap.size + 1, 0, none⟩) 3 3]) ?_ rfl ⟨_, rfl, hO, qb⟩
  simp [results, Try.results34, go_sem, e0, e1, e2, e3, e4]
section
variable {v : Value} {w : World}
theorem x_far (hk : Lks w w.heap.size v kilnF.ls) : Calls Try.prog 17 #[.agg #[.int .i64 20, .int .i64 10, .int .i64 5, .int .i64 30, v], .agg #[.int .i64 10, .int .i64 5], .agg #[.int .i64 12, .int .i64 8]] w fun e w' => e = .returned (.tuple #[.int .i64 70, .int .i64 0]) ∧ Below w.heap.size w w' := by
  have := Far_c kilnF v ⟨10, 5⟩ ⟨12, 8⟩ w hk; rw [ex_far.1, ex_far.2] at this; exact this
theorem x_far2 (hk : Lks w w.heap.size v kilnF.ls) : Calls Try.prog 17 #[.agg #[.int .i64 20, .int .i64 10, .int .i64 5, .int .i64 30, v], .agg #[.int .i64 12, .int .i64 8], .agg #[.int .i64 10, .int .i64 5]] w fun e w' => e = .returned (.tuple #[.int .i64 90, .int .i64 0]) ∧ Below w.heap.size w w' := by
  have := Far_c kilnF v ⟨12, 8⟩ ⟨10, 5⟩ w hk; rw [ex_far2.1, ex_far2.2] at this; exact this
theorem x_clash (hk : Lks w w.heap.size v kilnF.ls) : Calls Try.prog 18 #[.agg #[.int .i64 20, .int .i64 10, .int .i64 5, .int .i64 30, v]] w fun e w' => e = .returned (.tuple #[.int .i64 0, .int .i64 0, .bool false, .int .i64 0]) ∧ Below w.heap.size w w' := by
  have := Clash_c kilnF v w hk; rw [ex_clash.1, ex_clash.2] at this; exact this
theorem x_ends1 (hk : Lks w w.heap.size v kilnF.ls) : Calls Try.prog 15 #[.agg #[.int .i64 20, .int .i64 10, .int .i64 5, .int .i64 30, v], .agg #[.int .i64 10, .int .i64 10]] w fun e w' => e = .returned (.tuple #[.agg #[.int .i64 750, .int .i64 950, .int .i64 1, .int .i64 2], .int .i64 0]) ∧ Below w.heap.size w w' := by
  have := Ends_c kilnF v ⟨10, 10⟩ w hk; rw [ex_ends1.1, ex_ends1.2] at this; exact this
theorem x_ends2 (hk : Lks w w.heap.size v kilnF.ls) : Calls Try.prog 15 #[.agg #[.int .i64 20, .int .i64 10, .int .i64 5, .int .i64 30, v], .agg #[.int .i64 10, .int .i64 15]] w fun e w' => e = .returned (.tuple #[.agg #[.int .i64 850, .int .i64 1050, .int .i64 3, .int .i64 2], .int .i64 0]) ∧ Below w.heap.size w w' := by
  have := Ends_c kilnF v ⟨10, 15⟩ w hk; rw [ex_ends2.1, ex_ends2.2] at this; exact this
theorem x_ends3 (hk : Lks w w.heap.size v kilnF.ls) : Calls Try.prog 15 #[.agg #[.int .i64 20, .int .i64 10, .int .i64 5, .int .i64 30, v], .agg #[.int .i64 50, .int .i64 5]] w fun e w' => e = .returned (.tuple #[.agg #[.int .i64 0, .int .i64 1070, .int .i64 0, .int .i64 2], .int .i64 0]) ∧ Below w.heap.size w w' := by
  have := Ends_c kilnF v ⟨50, 5⟩ w hk; rw [ex_ends3.1, ex_ends3.2] at this; exact this
theorem x_burnt (hk : Lks w w.heap.size v kilnF.ls) {u : Value} (hu : Spts w w.heap.size u pathF) : Calls Try.prog 24 #[.agg #[.int .i64 20, .int .i64 10, .int .i64 5, .int .i64 30, v], u, .int .i64 900] w fun e w' => e = .returned (.tuple #[.agg #[.int .i64 0, .int .i64 0, .int .i64 0], .agg #[.int .i64 3, .int .i64 3, .int .i64 420], .int .i64 0]) ∧ Below w.heap.size w w' := by
  have := Burnt_c kilnF v u pathF 900 w hk hu; rw [ex_burnt.1, ex_burnt.2.1, ex_burnt.2.2] at this; exact this
theorem x_surely (hk : Lks w w.heap.size v kilnF.ls) {u : Value} (hu : Spts w w.heap.size u pathF) : Calls Try.prog 25 #[.agg #[.int .i64 20, .int .i64 10, .int .i64 5, .int .i64 30, v], u, .int .i64 840] w fun e w' => ∃ s, e = .returned (.tuple #[s, .int .i64 0]) ∧ w'.ownsRow w.heap.size 36 2 s 1 ([(⟨1, 2⟩ : Spn)].flatMap spnC) ∧ Below w.heap.size w w' := by
  have := Surely_c kilnF v u pathF 840 w hk hu; rw [ex_surely.1, ex_surely.2] at this
  exact this.mono fun e w' ⟨s, h1, h2, h3⟩ => ⟨s, h1, h2, h3⟩
theorem x_possibly (hk : Lks w w.heap.size v kilnF.ls) {u : Value} (hu : Spts w w.heap.size u pathF) : Calls Try.prog 26 #[.agg #[.int .i64 20, .int .i64 10, .int .i64 5, .int .i64 30, v], u, .int .i64 1040] w fun e w' => ∃ s, e = .returned (.tuple #[s, .int .i64 0]) ∧ w'.ownsRow w.heap.size 36 2 s 1 ([(⟨1, 2⟩ : Spn)].flatMap spnC) ∧ Below w.heap.size w w' := by
  have := Possibly_c kilnF v u pathF 1040 w hk hu; rw [ex_possibly.1, ex_possibly.2] at this
  exact this.mono fun e w' ⟨s, h1, h2, h3⟩ => ⟨s, h1, h2, h3⟩
theorem x_rests (hk : Lks w w.heap.size v kilnF.ls) : Calls Try.prog 23 #[.agg #[.int .i64 20, .int .i64 10, .int .i64 5, .int .i64 30, v], .agg #[.int .i64 10, .int .i64 15]] w fun e w' => ∃ s, e = .returned (.tuple #[s, .int .i64 0]) ∧ w'.ownsRow w.heap.size 3 1 s 1 ([3].map (Value.int .i64)) ∧ Below w.heap.size w w' := by
  have := Rests_c kilnF v ⟨10, 15⟩ w hk; rw [ex_rests.1, ex_rests.2] at this
  exact this.mono fun e w' ⟨s, h1, h2, h3⟩ => ⟨s, h1, h2, h3⟩
theorem x_needed (hk : Lks w w.heap.size v kilnF.ls) : Calls Try.prog 30 #[.agg #[.int .i64 20, .int .i64 10, .int .i64 5, .int .i64 30, v], .agg #[.int .i64 10, .int .i64 12], .agg #[.int .i64 10, .int .i64 15], .int .i64 900] w fun e w' => e = .returned (.tuple #[.int .i64 930, .bool true, .int .i64 0]) ∧ Below w.heap.size w w' := by
  have := Needed_c kilnF v ⟨10, 12⟩ ⟨10, 15⟩ 900 w hk; rw [ex_needed.1, ex_needed.2] at this; exact this
theorem x_clash4 (hk : Lks w w.heap.size v kiln4.ls) : Calls Try.prog 18 #[.agg #[.int .i64 20, .int .i64 10, .int .i64 5, .int .i64 30, v]] w fun e w' => e = .returned (.tuple #[.int .i64 4, .int .i64 1, .bool true, .int .i64 0]) ∧ Below w.heap.size w w' := by
  have := Clash_c kiln4 v w hk; rw [ex_clash4.1, ex_clash4.2] at this; exact this
theorem x_susp4 (hk : Lks w w.heap.size v kiln4.ls) : Calls Try.prog 19 #[.agg #[.int .i64 20, .int .i64 10, .int .i64 5, .int .i64 30, v]] w fun e w' => ∃ s, e = .returned (.tuple #[s, .int .i64 0]) ∧ w'.ownsRow w.heap.size 3 1 s 1 ([4].map (Value.int .i64)) ∧ Below w.heap.size w w' := by
  have := Suspects_c kiln4 v w hk; rw [ex_susp4.1, ex_susp4.2] at this
  exact this.mono fun e w' ⟨s, h1, h2, h3⟩ => ⟨s, h1, h2, h3⟩
theorem sameI_t {l : List Int} {u : Value} (hv : Ints w w.heap.size v l) (hu : Ints w w.heap.size u l) : Calls Try.prog 33 #[v, u] w fun e w' => e = .returned (.bool true) ∧ Below w.heap.size w w' := by
  have := sameInts_c v u l l w hv hu; rw [decide_eq_true rfl] at this; exact this
theorem sameS_t {l : List Spn} {u : Value} (hv : Spns w w.heap.size v l) (hu : Spns w w.heap.size u l) : Calls Try.prog 36 #[v, u] w fun e w' => e = .returned (.bool true) ∧ Below w.heap.size w w' := by
  have := sameSpans_c v u l l w hv hu; rw [decide_eq_true rfl] at this; exact this
end
end Go.Proofs.Ytjpoacffnpgjdaa
