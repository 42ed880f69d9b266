/- The reference's weights (written by tools/gensrefj.py). -/
import Derived.Test.YtpgepfbdjefmdaaGreatZSRefI
import Derived.Test.YtpgepfbdjefmdaaGreatJ22
import Derived.Test.YtpgepfbdjefmdaaGreatZSAreE
namespace Go.Proofs.YtpgepfbdjefmdaaGreat
open Go Go.RowKit Go.Shelf
attribute [local go_sem] Oper.semAt_some Rel RelAt RelUpon

set_option maxRecDepth 100000 in
set_option maxHeartbeats 4000000 in
theorem rweights_c (k : Kl) (v t : Value) (tl td : List Int) (w : World) (hk : Kiln w v k) (ht : Truth w t tl td) : Calls Tryz.prog 74 #[v, t] w fun e w' => e = .returned (.bool (wtsB tl k.ls.length && wtsB td k.ds.length)) ∧ Below w.heap.size w w' := by
  obtain ⟨A1, c1, A2, c2, A3, c3, rfl⟩ := kilnForm hk
  obtain ⟨a, b, rfl, ha, hb⟩ := ht
  obtain ⟨B1, d1, rfl, _, _, hat1⟩ := Ints.open_ ha
  obtain ⟨B2, d2, rfl, _, _, hat2⟩ := Ints.open_ hb
  have HA1 := Lib.hid hat1
  have HA2 := Lib.hid hat2
  clear hk ha hb hat1 hat2
  obtain ⟨n1, hn1⟩ : ∃ n, n = k.ls.length := ⟨_, rfl⟩
  obtain ⟨n2, hn2⟩ : ∃ n, n = k.ds.length := ⟨_, rfl⟩
  rw [← hn1, ← hn2]
  clear hn1 hn2
  obtain ⟨bk, bt, -, hB⟩ := two_new' w (.cells #[.int .i64 k.room, .int .i64 k.per, .slice A1 n1 c1, .slice A2 n2 c2, .slice A3 k.ws.length c3] 26) (.cells #[.slice B1 tl.length d1, .slice B2 td.length d2] 29)
  have x0 := Joins.cell_of_block bk 0
  have x1 := Joins.cell_of_block bk 1
  have x2 := Joins.cell_of_block bk 2
  have x3 := Joins.cell_of_block bk 3
  have zk := size_of_block bk
  have y0 := Joins.cell_of_block bt 0
  have y1 := Joins.cell_of_block bt 1
  have zt := size_of_block bt
  clear bk bt
  by_cases e1 : tl.length = n1
  · by_cases e2 : td.length = n2
    · subst e1 e2
      have HE := Lib.hid (show (wtsB tl tl.length && wtsB td td.length) = (tl.all wtB && td.all wtB) by unfold wtsB wtB; simp)
      go_enter Tryz.func74, Tryz.ntmps74
      go_wp2_with fail
      generalize (w.alloc _).alloc _ = W1 at hB x0 x1 x2 x3 zk y0 y1 zt ⊢
      go_loopw [5] (fun n wr => ∃ j : Nat, j ≤ tl.length ∧ n = .int .i64 j ∧ Hid ((tl.take j).all wtB = true) ∧ W1 = wr) (fun n _ => tl.length - (intOf n).toNat)
      case atStart => exact ⟨0, Nat.zero_le _, rfl, rfl, rfl⟩
      case round =>
        obtain ⟨j, hj, rfl, hq, rfl⟩ := hrel
        by_cases hlt : j < tl.length
        · obtain ⟨b, off, x, rfl, hb0, hx0, c0⟩ := HA1.out j hlt
          have hx := Lib.hid hx0
          replace c0 := (hB.cell (p := ⟨b, off + j, none⟩) hb0).trans c0
          clear hx0
          have HS := Lib.hid (show Calls Tryz.prog 82 #[.int .i64 x, .int .i64 0, .int .i64 16777216] W1 fun e w' => e = .returned (.bool (wtB x)) ∧ W1 = w' from in_c x 0 16777216 W1)
          rcases Bool.eq_false_or_eq_true (wtB x) with hs | hs
          · rw [hs] at HS
            go_wp2_with fail
            refine HS.out.mono ?_
            rintro e w1 ⟨rfl, rfl⟩
            have hy := Lib.hid (all_takeW_yes hx.out hs hq.out)
            go_wp2_with fail
            go_roundw
            case rel => exact ⟨j + 1, by omega, by go_num, hy, trivial⟩
            case measure => simp [intOf]; omega
          · rw [hs] at HS
            go_wp2_with fail
            refine HS.out.mono ?_
            rintro e w1 ⟨rfl, rfl⟩
            have hy := Lib.hid (all_takeW_no hx.out hs)
            go_wp2_with fail
            go_ret
            exact ⟨by rw [HE.out, hy.out]; rfl, hB⟩
        · obtain rfl : j = tl.length := by omega
          rw [List.take_length] at hq
          go_wp2_with fail
          go_loopw [6] (fun n wr => ∃ j : Nat, j ≤ td.length ∧ n = .int .i64 j ∧ Hid ((td.take j).all wtB = true) ∧ W1 = wr) (fun n _ => td.length - (intOf n).toNat)
          case atStart => exact ⟨0, Nat.zero_le _, rfl, rfl, rfl⟩
          case round =>
            obtain ⟨j, hj, rfl, hq2, rfl⟩ := hrel
            by_cases hlt : j < td.length
            · obtain ⟨b, off, x, rfl, hb0, hx0, c0⟩ := HA2.out j hlt
              have hx := Lib.hid hx0
              replace c0 := (hB.cell (p := ⟨b, off + j, none⟩) hb0).trans c0
              clear hx0
              have HS := Lib.hid (show Calls Tryz.prog 82 #[.int .i64 x, .int .i64 0, .int .i64 16777216] W1 fun e w' => e = .returned (.bool (wtB x)) ∧ W1 = w' from in_c x 0 16777216 W1)
              rcases Bool.eq_false_or_eq_true (wtB x) with hs | hs
              · rw [hs] at HS
                go_wp2_with fail
                refine HS.out.mono ?_
                rintro e w1 ⟨rfl, rfl⟩
                have hy := Lib.hid (all_takeW_yes hx.out hs hq2.out)
                go_wp2_with fail
                go_roundw
                case rel => exact ⟨j + 1, by omega, by go_num, hy, trivial⟩
                case measure => simp [intOf]; omega
              · rw [hs] at HS
                go_wp2_with fail
                refine HS.out.mono ?_
                rintro e w1 ⟨rfl, rfl⟩
                have hy := Lib.hid (all_takeW_no hx.out hs)
                go_wp2_with fail
                go_ret
                exact ⟨by rw [HE.out, hq.out, hy.out]; rfl, hB⟩
            · obtain rfl : j = td.length := by omega
              rw [List.take_length] at hq2
              go_wp2_with fail
              go_ret
              exact ⟨by rw [HE.out, hq.out, hq2.out]; rfl, hB⟩
    · have HE := Lib.hid (show (wtsB tl n1 && wtsB td n2) = false by unfold wtsB; simp [e2])
      have d2 : ((td.length : Int) != (n2 : Int)) = true := by simp only [bne_iff_ne, ne_eq]; omega
      subst e1
      go_enter Tryz.func74, Tryz.ntmps74
      go_wp2_with fail
      all_goals (try (exfalso; omega))
      go_ret
      exact ⟨by rw [HE.out]; rfl, hB⟩
  · have HE := Lib.hid (show (wtsB tl n1 && wtsB td n2) = false by unfold wtsB; simp [e1])
    have d1 : ((tl.length : Int) != (n1 : Int)) = true := by simp only [bne_iff_ne, ne_eq]; omega
    go_enter Tryz.func74, Tryz.ntmps74
    go_wp2_with fail
    all_goals (try (exfalso; omega))
    go_ret
    exact ⟨by rw [HE.out]; rfl, hB⟩
end Go.Proofs.YtpgepfbdjefmdaaGreat
