/- The reference for fires: Clash (written by tools/genclashr.py). -/
import Derived.Test.YtjpoacffnpgjdaaGreatZFRefAE
import Derived.Test.YtjpoacffnpgjdaaGreatJ22
namespace Go.Proofs.YtjpoacffnpgjdaaGreat
open Go Go.RowKit Go.Shelf
attribute [local go_sem] Oper.semAt_some Rel RelAt RelUpon

def clRow (f : Fi) (x : Lk) (o : Cl) (l : List Lk) : Cl := l.foldl (fun o y => clStep f o (x, y)) o
def clAll (f : Fi) (ls l : List Lk) : Cl := l.foldl (fun o x => clRow f x o ls) ⟨0, 0, false⟩
theorem clFold (f : Fi) (ls : List Lk) : ∀ (l : List Lk) (o : Cl), (l.flatMap fun x => ls.map fun y => (x, y)).foldl (clStep f) o = l.foldl (fun o x => clRow f x o ls) o
  | [], _ => rfl
  | x :: l, o => by
    rw [List.flatMap_cons, List.foldl_append, List.foldl_cons, clFold f ls l]
    congr 1
    unfold clRow
    rw [List.foldl_map]
theorem clAll_eq (f : Fi) (ls : List Lk) : clAll f ls ls = clashI f ls := (clFold f ls ls _).symm
theorem clRow_snoc (f : Fi) (x y : Lk) (o : Cl) {ls : List Lk} {m : Nat} (h : ls[m]? = some y) : clRow f x o (ls.take (m + 1)) = clStep f (clRow f x o (ls.take m)) (x, y) := by
  unfold clRow; rw [take_snoc h, List.foldl_append]; rfl
theorem clAll_snoc (f : Fi) (x : Lk) {ls : List Lk} {j : Nat} (h : ls[j]? = some x) : clAll f ls (ls.take (j + 1)) = clRow f x (clAll f ls (ls.take j)) ls := by
  unfold clAll; rw [take_snoc h, List.foldl_append]; rfl
set_option maxRecDepth 100000 in
set_option maxHeartbeats 4000000 in
theorem ClashR_c (f : Fi) (vl : Value) (w : World) (hl : Lks w w.heap.size vl f.ls) :
    Calls Tryz.prog 13 #[fiV f vl] w fun e w' => e = .returned (.agg #[.int .i64 (clashR f).a, .int .i64 (clashR f).b, .bool (clashR f).is, .int .i64 (fireI f)]) ∧ Below w.heap.size w w' := by
  obtain ⟨A, cap, rfl, _, hn, hat⟩ := Lks.open_ hl
  have H := Lib.hid hat
  have HK := Lib.hid hl
  clear hat hl
  have x1 := fun W h => CheckR_c f (.slice A f.ls.length cap) W h
  obtain ⟨q0, q1, -, qb⟩ := two_new' w (.cells #[.int .i64 f.rise, .int .i64 f.fall, .int .i64 f.up, .int .i64 f.down, .slice A f.ls.length cap] 24) (.cells #[.int .i64 0, .int .i64 0, .bool false, .int .i64 0] 36)
  by_cases hE : fireI f = 0
  · have hok := fire_ok hE
    have HC := Lib.hid (fun W a b ha hb => against_r f A f.ls.length cap a b W hok.slope (hok.look a ha) (hok.look b hb))
    have e1 : clashR f = clAll f f.ls f.ls := by unfold clashR; rw [if_pos hE, clAll_eq]
    rw [e1, hE]
    rw [hE] at x1
    clear e1 hE hok
    obtain ⟨R, hR⟩ : ∃ r, r = clAll f f.ls f.ls := ⟨_, rfl⟩
    rw [← hR]
    have HR := Lib.hid hR
    have X1 := Lib.hid x1
    clear hR x1
    unfold fiV at HC X1 ⊢
    unfold lkV at HC
    go_enter Tryz.func13, Tryz.ntmps13
    go_wp2_with fail
    generalize (w.alloc _).alloc _ = W1 at q0 q1 qb ⊢
    refine (X1.out W1 (HK.out.later qb)).mono ?_
    rintro e W2 ⟨rfl, hF⟩
    replace q0 := (hF.block _ (size_of_block q0)).trans q0
    replace q1 := (hF.block _ (size_of_block q1)).trans q1
    replace qb := below_then qb hF
    clear hF
    have q2 := heap_alloc_new W2 (.cells #[.int .i64 0, .int .i64 0, .bool false, .int .i64 0] 36)
    have ab := below_alloc W2 (.cells #[.int .i64 0, .int .i64 0, .bool false, .int .i64 0] 36)
    have hob : w.heap.size + 1 < W2.heap.size := size_of_block q1
    go_wp2_with fail
    replace q0 := (ab.block _ (size_of_block q0)).trans q0
    replace q1 := (ab.block _ (size_of_block q1)).trans q1
    replace qb := below_then qb ab
    generalize W2.alloc _ = W3 at q0 q1 q2 qb ⊢
    clear ab
    generalize W2.heap.size = ob at q2 hob ⊢
    go_loopw [5] (fun i wr => ∃ j : Nat, j ≤ f.ls.length ∧ i = .int .i64 j ∧ wr.heap[w.heap.size]? = some (.cells #[.int .i64 f.rise, .int .i64 f.fall, .int .i64 f.up, .int .i64 f.down, .slice A f.ls.length cap] 24) ∧ wr.heap[w.heap.size + 1]? = some (.cells #[.int .i64 0, .int .i64 0, .bool false, .int .i64 0] 36) ∧ wr.heap[ob]? = some (.cells #[.int .i64 (clAll f f.ls (f.ls.take j)).a, .int .i64 (clAll f f.ls (f.ls.take j)).b, .bool (clAll f f.ls (f.ls.take j)).is, .int .i64 0] 36) ∧ Below w.heap.size w wr) (fun i _ => f.ls.length - (intOf i).toNat)
    case atStart => exact ⟨0, Nat.zero_le _, rfl, q0, q1, q2, qb⟩
    case round =>
      clear q0 q1 q2 qb
      obtain ⟨j, hj, rfl, bf, br, bo, hbw⟩ := hrel
      have cf4 := Joins.cell_of_block bf 4
      by_cases hlt : j < f.ls.length
      · obtain ⟨b, off, x, rfl, hb, hx0, x0, x1, x2, x3, x4⟩ := H.out j hlt
        have hx := Lib.hid hx0
        have HS := Lib.hid (clAll_snoc f x hx0)
        clear hx0
        obtain ⟨CJ, hCJ⟩ : ∃ c, c = clAll f f.ls (f.ls.take j) := ⟨_, rfl⟩
        rw [← hCJ] at bo HS
        clear hCJ
        obtain ⟨wo, rfl⟩ : ∃ wo : World, wo = wr := ⟨_, rfl⟩
        go_wp2_with fail
        clear cf4
        go_loopw [6] (fun i wr => ∃ m : Nat, m ≤ f.ls.length ∧ i = .int .i64 m ∧ wr.heap[w.heap.size]? = some (.cells #[.int .i64 f.rise, .int .i64 f.fall, .int .i64 f.up, .int .i64 f.down, .slice (some ⟨b, off, none⟩) f.ls.length cap] 24) ∧ wr.heap[w.heap.size + 1]? = some (.cells #[.int .i64 0, .int .i64 0, .bool false, .int .i64 0] 36) ∧ wr.heap[ob]? = some (.cells #[.int .i64 (clRow f x CJ (f.ls.take m)).a, .int .i64 (clRow f x CJ (f.ls.take m)).b, .bool (clRow f x CJ (f.ls.take m)).is, .int .i64 0] 36) ∧ Below w.heap.size w wr) (fun i _ => f.ls.length - (intOf i).toNat)
        case atStart => exact ⟨0, Nat.zero_le _, rfl, bf, br, bo, hbw⟩
        case round =>
          clear bf br bo hbw
          obtain ⟨m, hm, rfl, bf, br, bo, hbw⟩ := hrel
          have zbf := size_of_block bf
          have cf0 := Joins.cell_of_block bf 0
          have cf1 := Joins.cell_of_block bf 1
          have cf2 := Joins.cell_of_block bf 2
          have cf3 := Joins.cell_of_block bf 3
          have cf4 := Joins.cell_of_block bf 4
          by_cases hlm : m < f.ls.length
          · obtain ⟨b2, off2, y, e2, _, hy0, y0, y1, y2, y3, y4⟩ := H.out m hlm
            cases e2
            have hy := Lib.hid hy0
            have hsn := clRow_snoc f x y CJ hy0
            clear hy0
            obtain ⟨⟨oa, obb, oi⟩, hO⟩ : ∃ c, c = clRow f x CJ (f.ls.take m) := ⟨_, rfl⟩
            rw [← hO] at bo hsn
            clear hO
            dsimp only at bo
            have HSN := Lib.hid hsn
            clear hsn
            have bw : ∀ o, wr.cell? ⟨b, o, none⟩ = w.cell? ⟨b, o, none⟩ := fun o => hbw.cell (p := ⟨b, o, none⟩) hb
            have cx0 := (bw _).trans x0
            have cx1 := (bw _).trans x1
            have cx2 := (bw _).trans x2
            have cx3 := (bw _).trans x3
            have cx4 := (bw _).trans x4
            have cy0 := (bw _).trans y0
            have cy1 := (bw _).trans y1
            have cy2 := (bw _).trans y2
            have cy3 := (bw _).trans y3
            have cy4 := (bw _).trans y4
            have zb : b < wr.heap.size := Nat.lt_of_lt_of_le hb hbw.size
            have hcc := fun W => HC.out W x y (List.mem_of_getElem? hx.out) (List.mem_of_getElem? hy.out)
            obtain ⟨ag, hag⟩ : ∃ c, c = againstB f x y := ⟨_, rfl⟩
            rw [← hag] at hcc
            have HAG := Lib.hid hag
            clear hag bw x0 x1 x2 x3 x4 y0 y1 y2 y3 y4
            go_wp2_with fail
            refine wp_region_grown (by kernel_rfl) (by kernel_rfl) fun hcg => ?_
            repeat (go_big_quiet_step ((go_at_call 62; exact Calls.grown (hcc _))))
            refine wpQuiet_nil ?_
            intro _ hw'
            obtain ⟨g, hw''⟩ := hw'
            subst hw''
            have gb := g.b
            generalize g.val = wM at gb ⊢
            replace bf := (gb.block _ (size_of_block bf)).trans bf
            replace br := (gb.block _ (size_of_block br)).trans br
            replace bo := (gb.block _ (size_of_block bo)).trans bo
            replace hbw := below_then hbw gb
            clear gb hcg hcc g cf0 cf1 cf2 cf3 cf4 cx0 cx1 cx2 cx3 cx4 cy0 cy1 cy2 cy3 cy4 zb zbf
            have co0 := Joins.cell_of_block bo 0
            have co1 := Joins.cell_of_block bo 1
            have co2 := Joins.cell_of_block bo 2
            cases ag with
            | false =>
              have HE9 : Hid (clRow f x CJ (f.ls.take (m + 1)) = ⟨oa, obb, oi⟩) := by show _ = _; rw [HSN.out]; unfold clStep; rw [← HAG.out]; rfl
              go_wp2_with fail
              go_roundw
              case rel => exact ⟨m + 1, by omega, by go_num, bf, br, by rw [HE9.out]; exact bo, hbw⟩
              case measure => simp [intOf]; omega
            | true =>
              cases oi with
              | false =>
                have HE9 : Hid (clRow f x CJ (f.ls.take (m + 1)) = ⟨x.id, y.id, true⟩) := by show _ = _; rw [HSN.out]; unfold clStep; rw [← HAG.out]; rfl
                have bo9 := setRow_heap wM ob _ #[.int .i64 x.id, .int .i64 y.id, .bool true, .int .i64 0] _ _ bo
                have bf9 := (setRow_other wM ob (w.heap.size) #[.int .i64 x.id, .int .i64 y.id, .bool true, .int .i64 0] (by omega)).trans bf
                have br9 := (setRow_other wM ob (w.heap.size + 1) #[.int .i64 x.id, .int .i64 y.id, .bool true, .int .i64 0] (by omega)).trans br
                have hb9 := below_setRow hbw (show w.heap.size ≤ ob by omega) #[.int .i64 x.id, .int .i64 y.id, .bool true, .int .i64 0]
                go_wp2_with (refine wpList_store_rowTo rfl 36 _ _ rfl rfl ob #[.int .i64 x.id, .int .i64 y.id, .bool true, .int .i64 0] rfl rfl 36 _ bo (by kernel_rfl) rfl (by kernel_rfl) ?_)
                go_roundw
                case rel => exact ⟨m + 1, by omega, by go_num, bf9, br9, by rw [HE9.out]; exact bo9, hb9⟩
                case measure => simp [intOf]; omega
              | true =>
                cases h1 : decide (x.id < oa) with
                | true =>
                  have HE9 : Hid (clRow f x CJ (f.ls.take (m + 1)) = ⟨x.id, y.id, true⟩) := by show _ = _; rw [HSN.out]; unfold clStep; rw [← HAG.out, h1]; rfl
                  have bo9 := setRow_heap wM ob _ #[.int .i64 x.id, .int .i64 y.id, .bool true, .int .i64 0] _ _ bo
                  have bf9 := (setRow_other wM ob (w.heap.size) #[.int .i64 x.id, .int .i64 y.id, .bool true, .int .i64 0] (by omega)).trans bf
                  have br9 := (setRow_other wM ob (w.heap.size + 1) #[.int .i64 x.id, .int .i64 y.id, .bool true, .int .i64 0] (by omega)).trans br
                  have hb9 := below_setRow hbw (show w.heap.size ≤ ob by omega) #[.int .i64 x.id, .int .i64 y.id, .bool true, .int .i64 0]
                  go_wp2_with (refine wpList_store_rowTo rfl 36 _ _ rfl rfl ob #[.int .i64 x.id, .int .i64 y.id, .bool true, .int .i64 0] rfl rfl 36 _ bo (by kernel_rfl) rfl (by kernel_rfl) ?_)
                  go_roundw
                  case rel => exact ⟨m + 1, by omega, by go_num, bf9, br9, by rw [HE9.out]; exact bo9, hb9⟩
                  case measure => simp [intOf]; omega
                | false =>
                  cases h2 : (x.id == oa) with
                  | false =>
                    have HE9 : Hid (clRow f x CJ (f.ls.take (m + 1)) = ⟨oa, obb, true⟩) := by show _ = _; rw [HSN.out]; unfold clStep; rw [← HAG.out, h1, h2]; rfl
                    go_wp2_with fail
                    go_roundw
                    case rel => exact ⟨m + 1, by omega, by go_num, bf, br, by rw [HE9.out]; exact bo, hbw⟩
                    case measure => simp [intOf]; omega
                  | true =>
                    cases h3 : decide (y.id < obb) with
                    | true =>
                      have HE9 : Hid (clRow f x CJ (f.ls.take (m + 1)) = ⟨x.id, y.id, true⟩) := by show _ = _; rw [HSN.out]; unfold clStep; rw [← HAG.out, h1, h2, h3]; rfl
                      have bo9 := setRow_heap wM ob _ #[.int .i64 x.id, .int .i64 y.id, .bool true, .int .i64 0] _ _ bo
                      have bf9 := (setRow_other wM ob (w.heap.size) #[.int .i64 x.id, .int .i64 y.id, .bool true, .int .i64 0] (by omega)).trans bf
                      have br9 := (setRow_other wM ob (w.heap.size + 1) #[.int .i64 x.id, .int .i64 y.id, .bool true, .int .i64 0] (by omega)).trans br
                      have hb9 := below_setRow hbw (show w.heap.size ≤ ob by omega) #[.int .i64 x.id, .int .i64 y.id, .bool true, .int .i64 0]
                      go_wp2_with (refine wpList_store_rowTo rfl 36 _ _ rfl rfl ob #[.int .i64 x.id, .int .i64 y.id, .bool true, .int .i64 0] rfl rfl 36 _ bo (by kernel_rfl) rfl (by kernel_rfl) ?_)
                      go_roundw
                      case rel => exact ⟨m + 1, by omega, by go_num, bf9, br9, by rw [HE9.out]; exact bo9, hb9⟩
                      case measure => simp [intOf]; omega
                    | false =>
                      have HE9 : Hid (clRow f x CJ (f.ls.take (m + 1)) = ⟨oa, obb, true⟩) := by show _ = _; rw [HSN.out]; unfold clStep; rw [← HAG.out, h1, h2, h3]; rfl
                      go_wp2_with fail
                      go_roundw
                      case rel => exact ⟨m + 1, by omega, by go_num, bf, br, by rw [HE9.out]; exact bo, hbw⟩
                      case measure => simp [intOf]; omega
          · obtain rfl : m = f.ls.length := by omega
            rw [List.take_length, ← HS.out] at bo
            clear cf0 cf1 cf2 cf3 zbf
            go_wp2_with fail
            go_roundw
            case rel => exact ⟨j + 1, by omega, by go_num, bf, br, bo, hbw⟩
            case measure => simp [intOf]; omega
      · obtain rfl : j = f.ls.length := by omega
        rw [List.take_length, ← HR.out] at bo
        obtain ⟨ra, rb, ri⟩ := R
        dsimp only at bo
        have co0 := Joins.cell_of_block bo 0
        have co1 := Joins.cell_of_block bo 1
        have co2 := Joins.cell_of_block bo 2
        have co3 := Joins.cell_of_block bo 3
        have HP := Lib.hid (fun j : Nat => cell_setRow_same wr (w.heap.size + 1) j _ #[.int .i64 ra, .int .i64 rb, .bool ri, .int .i64 0] _ _ br)
        have BF := below_setRow hbw (show w.heap.size ≤ w.heap.size + 1 by omega) #[.int .i64 ra, .int .i64 rb, .bool ri, .int .i64 0]
        go_wp2_with (refine wpList_store_rowTo rfl 36 _ _ rfl rfl (w.heap.size + 1) #[.int .i64 ra, .int .i64 rb, .bool ri, .int .i64 0] rfl rfl 36 _ br (by kernel_rfl) rfl (by kernel_rfl) ?_)
        refine bodyPost_ret (v := .agg #[.int .i64 ra, .int .i64 rb, .bool ri, .int .i64 0]) ?_ rfl ⟨rfl, BF⟩
        simp [results, Tryz.results13, go_sem, HP.out]
  · have d1 : (fireI f != 0) = true := by simpa using hE
    have e1 : clashR f = ⟨0, 0, false⟩ := by unfold clashR; rw [if_neg hE]
    rw [e1]
    clear e1 hE
    generalize fireI f = E at x1 d1 ⊢
    have X1 := Lib.hid x1
    clear x1
    unfold fiV at X1 ⊢
    go_enter Tryz.func13, Tryz.ntmps13
    go_wp2_with fail
    generalize (w.alloc _).alloc _ = W1 at q0 q1 qb ⊢
    refine (X1.out W1 (HK.out.later qb)).mono ?_
    rintro e W2 ⟨rfl, hF⟩
    replace q1 := (hF.block _ (size_of_block q1)).trans q1
    replace qb := below_then qb hF
    clear hF q0
    have HP := Lib.hid (fun j : Nat => cell_setRow_same W2 (w.heap.size + 1) j _ #[.int .i64 0, .int .i64 0, .bool false, .int .i64 E] _ _ q1)
    have BF := below_setRow qb (show w.heap.size ≤ w.heap.size + 1 by omega) #[.int .i64 0, .int .i64 0, .bool false, .int .i64 E]
    go_wp2_with (refine wpList_store_rowTo rfl 36 _ _ rfl rfl (w.heap.size + 1) #[.int .i64 0, .int .i64 0, .bool false, .int .i64 E] rfl rfl 36 _ q1 (by kernel_rfl) rfl (by kernel_rfl) ?_)
    refine bodyPost_ret (v := .agg #[.int .i64 0, .int .i64 0, .bool false, .int .i64 E]) ?_ rfl ⟨rfl, BF⟩
    simp [results, Tryz.results13, go_sem, HP.out]
end Go.Proofs.YtjpoacffnpgjdaaGreat
