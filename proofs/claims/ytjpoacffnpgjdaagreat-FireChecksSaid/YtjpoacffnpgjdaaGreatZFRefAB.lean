/- The reference for fires: in, put. -/
import Derived.Test.YtjpoacffnpgjdaaGreatZFCatR
import Derived.Test.YtjpoacffnpgjdaaGreatJ7
import Derived.Test.YtjpoacffnpgjdaaGreatJ17
import Derived.Lib.MinMax
namespace Go.Proofs.YtjpoacffnpgjdaaGreat
open Go Go.RowKit Go.Shelf
attribute [local go_sem] Oper.semAt_some Rel RelAt RelUpon

theorem in_r (v : Value) (l : List Int) (n : Int) (w : World) (hv : Ints w w.heap.size v l) :
    Calls Tryz.prog 114 #[v, .int .i64 n] w fun e w' => e = .returned (.bool (l.contains n)) ∧ Below w.heap.size w w' := by
  obtain ⟨A, cap, rfl, _, hn, hat⟩ := hv.open_
  have H := Lib.hid hat
  clear hat hv
  obtain ⟨R, hR⟩ : ∃ r, r = l.contains n := ⟨_, rfl⟩
  rw [← hR]
  have HR := Lib.hid hR
  clear hR
  go_enter Tryz.func114, Tryz.ntmps114
  go_wp2_with fail
  go_loopw [5] (fun i wr => ∃ j : Nat, j ≤ l.length ∧ i = .int .i64 j ∧ Hid (∀ x ∈ l.take j, x ≠ n) ∧ Below w.heap.size w wr) (fun i _ => l.length - (intOf i).toNat)
  case atStart => exact ⟨0, Nat.zero_le _, rfl, by intro x hx; simp at hx, Below.refl _ _⟩
  case round =>
    obtain ⟨j, hj, rfl, hI, hbw⟩ := hrel
    by_cases hlt : j < l.length
    · obtain ⟨b, off, x, rfl, hb, hx0, c0⟩ := H.out j hlt
      have d0 := (hbw.cell (p := ⟨b, off + j, none⟩) hb).trans c0
      have hx := Lib.hid hx0
      clear hx0 c0
      by_cases hc : x = n
      · have d1 : (x == n) = true := by simpa using hc
        obtain rfl : R = true := by
          rw [HR.out, List.contains_iff_mem, ← hc]; exact List.mem_of_getElem? hx.out
        clear hc
        go_wp2_with fail
        go_ret
        exact ⟨rfl, hbw⟩
      · have d1 : (x == n) = false := by simpa using hc
        have hI2 : Hid (∀ z ∈ l.take (j + 1), z ≠ n) := by
          intro z hz
          rw [take_snoc hx.out, List.mem_append, List.mem_singleton] at hz
          rcases hz with hz | rfl
          · exact hI.out z hz
          · exact hc
        clear hc
        go_wp2_with fail
        go_roundw
        case rel => exact ⟨j + 1, by omega, by go_num, hI2, hbw⟩
        case measure => simp [intOf]; omega
    · obtain rfl : j = l.length := by omega
      obtain rfl : R = false := by
        rw [HR.out, Bool.eq_false_iff]
        intro h
        rw [List.contains_iff_mem] at h
        exact hI.out n (by rw [List.take_length]; exact h) rfl
      go_wp2_with fail
      go_ret
      exact ⟨rfl, hbw⟩
theorem int_cells {w : World} {B cap : Nat} {ad : Addr} {l : List Int} (h : Ints w B (.slice (some ad) l.length cap) l) : ∀ j u, (l.map (Value.int .i64))[j]? = some u → w.cell? (ad.add j) = some u := fun j u hu => by
  obtain ⟨A', c', e, hl1, hl2, h3⟩ := h
  have hj : j < l.length := by have := (List.getElem?_eq_some_iff.1 hu).1; simpa using this
  obtain ⟨b, off, e2, hb, hc⟩ := h3 (by omega)
  have hx := List.getElem?_eq_getElem hj
  have hcell := hc j _ hx 0 _ rfl
  rw [List.getElem?_map, hx] at hu
  rw [← Option.some.inj hu]
  simp only [Value.slice.injEq] at e
  rw [e2] at e
  obtain rfl := Option.some.inj e.1
  rw [show off + j * 1 + 0 = off + j by omega] at hcell
  simp only [Addr.add]
  by_cases h0 : j = 0
  · subst h0; simpa using hcell
  · simpa [h0] using hcell
theorem int_one (l : List Int) : ∀ u ∈ l.map (Value.int .i64), u.oneCell' = true := fun u hu => by
  obtain ⟨x, _, rfl⟩ := List.mem_map.1 hu; rfl
theorem int_none {w : World} {B cap : Nat} {l : List Int} (h : Ints w B (.slice none l.length cap) l) : l = [] := by
  rcases l with _ | ⟨x, l⟩
  · rfl
  · obtain ⟨A', c', e, _, _, h3⟩ := h
    obtain ⟨b, off, e2, _⟩ := h3 (by simp)
    simp only [Value.slice.injEq] at e
    rw [e2] at e; cases e.1
theorem ints_sliced {w : World} {B : Nat} {A : Option Addr} {cap lo hi : Nat} {l : List Int} (h : Ints w B (.slice A l.length cap) l) (h1 : lo ≤ hi) (h2 : hi ≤ l.length) : Ints w B (.slice (if cap = lo then A else A.map (·.add (lo * 1))) (hi - lo) (cap - lo)) ((l.take hi).drop lo) := by
  obtain ⟨A', c', e, hl1, hl2, h3⟩ := h
  simp only [Value.slice.injEq] at e
  obtain ⟨rfl, -, rfl⟩ := e
  have hlen : ((l.take hi).drop lo).length = hi - lo := by simp; omega
  refine ⟨_, _, by rw [hlen], by rw [hlen]; omega, by rw [hlen]; omega, fun hp => ?_⟩
  rw [hlen] at hp
  obtain ⟨b, off, rfl, hb, hc⟩ := h3 (by omega)
  refine ⟨b, off + lo, ?_, hb, fun i x hx j u hu => ?_⟩
  · rw [if_neg (by omega)]
    simp only [Option.map_some, Nat.mul_one, Addr.add]
    by_cases h0 : lo = 0
    · subst h0; simp
    · simp [h0]
  · have hx2 : l[lo + i]? = some x := by
      rw [List.getElem?_drop, List.getElem?_take] at hx
      split at hx
      · exact hx
      · cases hx
    have := hc (lo + i) x hx2 j u hu
    rw [← this]; congr 2; omega
/-- What an append of a slice to an empty literal leaves: the slice's numbers, in memory of its own. -/
theorem append_catI {w : World} {A : Option Addr} {l : List Int} {cap g base : Nat} {i : TypeInfo} (hi : Tryz.prog.info? 3 = some i) (hz0 : i.zero = some (.int .i64 0)) (hz1 : i.size = 1) (hz2 : i.bytes = 8)
    (ty : TypeId) (hk : Ints w w.heap.size (.slice A l.length cap) l) (hlen : l.length ≤ 5000) (hg : w.heap[g]? = some (.cells #[] 3)) (hb : base ≤ g) :
    ∃ v' w', (Builtin.append_ #[27, 27] ty #[.slice (some ⟨g, 0, none⟩) 0 0, .slice A l.length cap]).run Tryz.prog w = .ok v' w' ∧ w'.ownsRow base 3 1 v' l.length (l.map (Value.int .i64)) ∧ Below w.heap.size w w' := by
  have hgs := size_of_block hg
  have hown : w.ownsRow base 3 1 (.slice (some ⟨g, 0, none⟩) 0 0) 0 [] := ⟨rfl, .inr ⟨g, 0, #[], rfl, hb, hg, Nat.le_refl _, by unfold maxLen; omega, rfl, rfl⟩⟩
  cases A with
  | none =>
    obtain rfl := int_none hk
    exact ⟨_, _, run_append_none base _ ty _ i 1 cap Tryz.underlying27 hi _ _ _ hown, hown, Below.refl _ _⟩
  | some ad =>
    have hnews := int_cells hk
    by_cases h0 : l.length = 0
    · obtain rfl := List.length_eq_zero_iff.1 h0
      have hr := run_append_room (P := Tryz.prog) w 27 ty 3 i Tryz.underlying27 hi g 0 0 #[] hg ad 0 cap [] (by simp) (by simp) (by simp) (Nat.le_refl _) (by simp)
      have hs : w.setRow g ((#[] : Array Value).toList.take (0 * i.size) ++ [] ++ (#[] : Array Value).toList.drop (0 * i.size + ([] : List Value).length)).toArray = w := setRow_same (by simpa using hg)
      rw [hs] at hr
      exact ⟨_, _, hr, hown, Below.refl _ _⟩
    · have hr := run_append_grow (P := Tryz.prog) w 27 ty 3 i _ Tryz.underlying27 hi hz0 ⟨g, 0, none⟩ 0 0 [] (by simp) (by simp) ad l.length cap (l.map (Value.int .i64)) (by rw [hz1]; simp) hnews (by omega) (by omega) (growslice_fits (by omega) (by rw [hz2]; omega))
      have hge := grownCap_ge w (0 + l.length) 0 3
      have hcm := grownCap_le_maxLen w (0 + l.length) 0 3 (by unfold maxLen; omega)
      refine ⟨_, _, hr, ⟨by simp, .inr ⟨w.heap.size, _, _, by rw [Nat.zero_add], Nat.le_of_lt (Nat.lt_of_le_of_lt hb hgs), heap_alloc_new w.drew _, by omega, hcm, ?_, ?_⟩⟩, ((Below.refl _ w).drew).alloc (Nat.le_refl _) _⟩
      · simp only [Array.size_append, List.size_toArray, size_zeroCells, List.length_map, List.length_nil]
        show 0 + l.length + (grownCap w (0 + l.length) 0 3 - (0 + l.length)) * 1 = _
        omega
      · simp only [Array.toList_append, List.nil_append, Nat.mul_one]
        have hm : (l.map (Value.int .i64)).length = l.length := List.length_map ..
        rw [← hm]
        exact List.take_left
/-- An append of whatever slice of numbers. -/
theorem append_anyI {w : World} {A : Option Addr} {l : List Int} {cap base n : Nat} {v : Value} {xs : List Value} {i : TypeInfo} (hi : Tryz.prog.info? 3 = some i) (hz0 : i.zero = some (.int .i64 0)) (hz1 : i.size = 1) (hz2 : i.bytes = 8)
    (ty : TypeId) (hk : Ints w w.heap.size (.slice A l.length cap) l) (hlen : n + l.length ≤ 10000) (hown : w.ownsRow base 3 1 v n xs) (hb : base ≤ w.heap.size) :
    ∃ v' w', (Builtin.append_ #[27, 27] ty #[v, .slice A l.length cap]).run Tryz.prog w = .ok v' w' ∧ w'.ownsRow base 3 1 v' (n + l.length) (xs ++ l.map (Value.int .i64)) ∧ w.grownBy w' v.ownBlock := by
  cases A with
  | none =>
    obtain rfl := int_none hk
    exact ⟨_, _, run_append_none base _ ty _ i 1 cap Tryz.underlying27 hi _ _ _ hown, by simpa using hown, ⟨rfl, rfl, rfl, Nat.le_refl _, fun _ _ _ => rfl⟩⟩
  | some ad =>
    obtain ⟨v', w', hr, h1, h2, _⟩ := run_append_own (P := Tryz.prog) w base 27 ty 3 i _ 1 8 Tryz.underlying27 hi hz0 hz1 hz2 rfl (by decide) v n xs hown ad l.length cap (l.map (Value.int .i64)) (by simp) (int_cells hk) (int_one l) (by unfold maxLen; omega) (by omega) hb
    exact ⟨v', w', hr, h1, h2⟩
theorem put_split {n : Int} : ∀ {l : List Int} {j : Nat}, (∀ x ∈ l.take j, x < n) → (∀ x, l[j]? = some x → ¬ x < n) → j ≤ l.length → putI l n = l.take j ++ n :: l.drop j := by
  intro l
  induction l with
  | nil => intro j _ _ hj; simp [putI]
  | cons y l ih =>
    intro j h1 h2 hj
    cases j with
    | zero =>
      have := h2 y (by simp)
      simp [putI, this]
    | succ j =>
      have hy : y < n := h1 y (by simp)
      have := ih (j := j) (fun x hx => h1 x (by simp [hx])) (fun x hx => h2 x (by simpa using hx)) (by simpa using hj)
      unfold putI at this ⊢
      simp only [List.takeWhile_cons, List.dropWhile_cons, decide_eq_true hy, if_true, List.take_succ_cons, List.drop_succ_cons, List.cons_append]
      rw [this]
set_option maxRecDepth 100000 in
set_option maxHeartbeats 4000000 in
theorem put_r (v : Value) (l : List Int) (n : Int) (w : World) (hv : Ints w w.heap.size v l) (hlen : l.length ≤ 4000) :
    Calls Tryz.prog 67 #[v, .int .i64 n] w fun e w' => ∃ u, e = .returned u ∧ w'.ownsRow w.heap.size 3 1 u (putI l n).length ((putI l n).map (Value.int .i64)) ∧ Below w.heap.size w w' := by
  have HV := Lib.hid hv
  obtain ⟨A, cap, rfl, hcap, hn, hat⟩ := hv.open_
  have H := Lib.hid hat
  clear hat hv
  obtain ⟨i0, hi, hz0, hz1, hz2⟩ := info_parts Tryz.infoIntF
  have HI := Lib.hid hi
  have HI0 := Lib.hid hz0
  have HI1 := Lib.hid hz1
  have HI2 := Lib.hid hz2
  clear hi hz0 hz1 hz2
  go_enter Tryz.func67, Tryz.ntmps67
  go_wp2_with fail
  go_loopw [5] (fun i wr => ∃ j : Nat, j ≤ l.length ∧ i = .int .i64 j ∧ Hid (∀ x ∈ l.take j, x < n) ∧ w = wr) (fun i _ => l.length - (intOf i).toNat)
  case atStart => exact ⟨0, Nat.zero_le _, rfl, by intro x hx; simp at hx, rfl⟩
  case round =>
    obtain ⟨j, hj, rfl, hI, rfl⟩ := hrel
    have stop : (∀ x, l[j]? = some x → ¬ x < n) → Hid (putI l n = l.take j ++ n :: l.drop j) := fun h => put_split hI.out h hj
    by_cases hgo : ∃ x, l[j]? = some x ∧ x < n
    · obtain ⟨x, hx0, hc⟩ := hgo
      have hlt : j < l.length := (List.getElem?_eq_some_iff.1 hx0).1
      obtain ⟨b, off, x', rfl, hb, hx1, c0⟩ := H.out j hlt
      obtain rfl : x = x' := by rw [hx0] at hx1; exact Option.some.inj hx1
      have d1 : decide (x < n) = true := decide_eq_true hc
      have hI2 : Hid (∀ z ∈ l.take (j + 1), z < n) := by
        intro z hz
        rw [take_snoc hx0, List.mem_append, List.mem_singleton] at hz
        rcases hz with hz | rfl
        · exact hI.out z hz
        · exact hc
      clear hx0 hx1 hc stop
      go_wp2_with fail
      go_roundw
      case rel => exact ⟨j + 1, by omega, by go_num, hI2, trivial⟩
      case measure => simp [intOf]; omega
    · have HP := stop fun x hx hc => hgo ⟨x, hx, hc⟩
      have hT1 : (l.take j).length = j := by rw [List.length_take]; omega
      have HT1 := Lib.hid hT1
      obtain ⟨P1, hP1⟩ : ∃ X : Option Addr, X = if cap = 0 then A else A.map (fun x => x.add (0 * 1)) := ⟨_, rfl⟩
      obtain ⟨P2, hP2⟩ : ∃ X : Option Addr, X = if cap = j then A else A.map (fun x => x.add (j * 1)) := ⟨_, rfl⟩
      obtain ⟨m2, hm2⟩ : ∃ m, m = l.length - j := ⟨_, rfl⟩
      obtain ⟨c2, hc2⟩ : ∃ c, c = cap - j := ⟨_, rfl⟩
      have h1 : Ints w w.heap.size (.slice P1 (l.take j).length cap) (l.take j) := by
        have h := ints_sliced HV.out (Nat.zero_le j) hj
        rw [List.drop_zero, ← hP1] at h
        rw [hT1]; exact h
      have hT2 : (l.drop j).length = m2 := by rw [hm2]; simp
      have HT2 := Lib.hid hT2
      have h2 : Ints w w.heap.size (.slice P2 (l.drop j).length c2) (l.drop j) := by
        have h := ints_sliced HV.out hj (Nat.le_refl _)
        rw [List.take_length, ← hP2, ← hm2, ← hc2] at h
        rw [hT2]; exact h
      have HP1 := Lib.hid hP1
      have HP2 := Lib.hid hP2
      have HM2 := Lib.hid hm2
      have HC2 := Lib.hid hc2
      have hm2l : j + m2 = l.length := by omega
      have HLN : Hid ((l.take j ++ n :: l.drop j).length = j + 1 + m2) := by show _ = _; rw [List.length_append, List.length_cons, hT1, hT2]; omega
      clear hP1 hP2 hm2 hc2
      have hjc : (j : Int) ≤ cap := by omega
      have hj0 : (0 : Int) ≤ j := by omega
      have hjl : (j : Int) ≤ l.length := by omega
      have H1 := Lib.hid h1
      have H2 := Lib.hid h2
      clear h1 h2 stop hT1 hT2
      by_cases hlt : j < l.length
      · obtain ⟨b, off, x, rfl, hb, hx1, c0⟩ := H.out j hlt
        have d1 : decide (x < n) = false := decide_eq_false fun h => hgo ⟨x, hx1, h⟩
        clear hgo hx1
        go_wp2_with fail
        refine wp_region_looseM [1, 2, 3, 5, 8, 9, 10] [] (.alt (.one 0 (.alt (.one 4 (.one 6 .done)) (.one 6 (.one 4 .done)))) (.one 6 (.one 0 (.one 4 .done)))) [] [] [7, 11, 12] [] [] (by kernel_rfl) (by kernel_rfl) (by intro c a d v w h; cases d <;> exact h) (by intro c a d v w h; cases d <;> exact h) rfl (fun r i h => by simp at h) ?_
        simp only [pick, List.filterMap_cons, List.filterMap_nil, List.getElem?_toArray, List.getElem?_cons_succ, List.getElem?_cons_zero]
        refine wpPure_step (.slice (some ⟨b, off, none⟩) l.length cap) rfl (fun u => rfl) ?_
        refine wpPure_step (.int .i64 j) rfl (fun u => rfl) ?_
        refine wpPure_step (.slice P1 j cap) rfl (fun u => by rw [HP1.out]; simp [execOp, go_sem, hjc, hj0]) ?_
        refine wpPure_step (.int .i64 n) rfl (fun u => rfl) ?_
        refine wpPure_step (.slice (some ⟨b, off, none⟩) l.length cap) rfl (fun u => rfl) ?_
        refine wpPure_step (.int .i64 j) rfl (fun u => rfl) ?_
        refine wpPure_step (.slice P2 m2 c2) rfl (fun u => by rw [HP2.out, HM2.out, HC2.out]; simp [execOp, go_sem, hjl, hj0]) ?_
        intro u hu
        refine wpRel_nil fun V0 hb0 => ?_
        have D0 := below_then hu hb0
        clear hb0 hu
        refine wpTr_alt ?_ ?_
        · refine wpTr_step rfl rfl fun K hK => ?_
          go_simp
          refine hK _ _ (below_alloc _ _) fun V1 hu1 => ?_
          clear hK K
          have y0 := (hu1.block _ (by simp)).trans (heap_alloc_new V0 (.cells #[] 3))
          have D1 := below_then D0 (below_then (below_alloc V0 (.cells #[] 3)) hu1)
          have hg0 : w.heap.size ≤ V0.heap.size := D0.size
          clear hu1
          refine wpTr_alt ?_ ?_
          · refine wpTr_step rfl rfl fun K hK => ?_
            obtain ⟨v3, W3, hr, h3, hb⟩ := append_catI (base := w.heap.size) HI.out HI0.out HI1.out HI2.out 27 (H1.out.later D1) (by have := HT1.out; omega) y0 hg0
            rw [HT1.out] at hr h3
            refine Lib.wp_append_run _ (.tmp 20) (.tmp 23) _ _ rfl _ _ rfl rfl _ _ hr ?_
            refine hK _ _ hb fun V2 hu2 => ?_
            clear hK K hr y0
            replace h3 := own_below h3 hu2
            have D2 := below_then D1 (below_then hb hu2)
            clear hb
            clear hu2
            refine wpTr_step rfl rfl fun K hK => ?_
            go_simp
            refine hK _ _ (below_alloc _ _) fun V3 hu3 => ?_
            clear hK K
            have y6 := (hu3.block _ (by simp)).trans (heap_alloc_new V2 (.cells #[.int .i64 n] 3))
            have D3 := below_then D2 (below_then (below_alloc V2 (.cells #[.int .i64 n] 3)) hu3)
            replace h3 := own_below h3 (below_then (below_alloc V2 (.cells #[.int .i64 n] 3)) hu3)
            clear hu3
            show wpPure _ _ _ _
            intro ks hks _ _
            obtain rfl : ks = [] := List.length_eq_zero_iff.1 hks
            clear hks
            show wpList _ _ _ _ _ _
            simp only [deco]
            refine wpList_append_own _ rfl (.tmp 24) (.tmp 26) 27 rfl w.heap.size 3 i0 (.int .i64 0) 1 8 Tryz.underlying27 HI.out HI0.out HI1.out HI2.out rfl (by decide) _ _ _ rfl h3 ⟨_, 0, none⟩ 1 1 [.int .i64 n] rfl rfl ?c1 ?c2 ?c3 ?c4 ?c5 ?_
            case c1 =>
              intro j u hj
              have h9 := Joins.cell_of_block y6 j
              rw [← Array.getElem?_toList] at h9
              rw [show (#[Value.int .i64 n] : Array Value).toList = [.int .i64 n] from rfl, hj] at h9
              by_cases h0 : j = 0
              · subst h0; simpa [Addr.add] using h9
              · simpa [Addr.add, h0] using h9
            case c2 => exact one_oneCell rfl
            case c3 => unfold maxLen; omega
            case c4 => omega
            case c5 => exact D3.size
            intro v4 W4 hown4 hgrow _
            have hB4 := below_own D3 D3.size h3 hgrow
            clear hgrow h3 y6
            obtain ⟨v5, W5, hr5, hown5, hgrow⟩ := append_anyI (base := w.heap.size) HI.out HI0.out HI1.out HI2.out 27 (H2.out.later hB4) (by rw [HT2.out]; omega) hown4 hB4.size
            rw [HT2.out] at hr5
            refine Lib.wpList_append_run _ rfl (.tmp 27) (.tmp 30) _ _ rfl _ _ rfl rfl _ _ hr5 ?_
            have hB5 := below_own hB4 hB4.size hown4 hgrow
            clear hgrow hr5 hown4 hB4
            show wpList _ _ _ _ _ _
            go_wp2_with fail
            go_ret
            exact ⟨_, rfl, by rw [HP.out, HLN.out, List.map_append, List.map_cons]; rw [HT2.out] at hown5; simpa using hown5, hB5⟩
          · refine wpTr_step rfl rfl fun K hK => ?_
            go_simp
            refine hK _ _ (below_alloc _ _) fun V2 hu2 => ?_
            clear hK K
            have y6 := (hu2.block _ (by simp)).trans (heap_alloc_new V1 (.cells #[.int .i64 n] 3))
            have D2 := below_then D1 (below_then (below_alloc V1 (.cells #[.int .i64 n] 3)) hu2)
            replace y0 := ((below_then (below_alloc V1 (.cells #[.int .i64 n] 3)) hu2).block _ (size_of_block y0)).trans y0
            clear hu2
            refine wpTr_step rfl rfl fun K hK => ?_
            obtain ⟨v3, W3, hr, h3, hb⟩ := append_catI (base := w.heap.size) HI.out HI0.out HI1.out HI2.out 27 (H1.out.later D2) (by have := HT1.out; omega) y0 hg0
            rw [HT1.out] at hr h3
            refine Lib.wp_append_run _ (.tmp 20) (.tmp 23) _ _ rfl _ _ rfl rfl _ _ hr ?_
            refine hK _ _ hb fun V3 hu3 => ?_
            clear hK K hr y0
            replace h3 := own_below h3 hu3
            have D3 := below_then D2 (below_then hb hu3)
            replace y6 := ((below_then hb hu3).block _ (size_of_block y6)).trans y6
            clear hb
            clear hu3
            show wpPure _ _ _ _
            intro ks hks _ _
            obtain rfl : ks = [] := List.length_eq_zero_iff.1 hks
            clear hks
            show wpList _ _ _ _ _ _
            simp only [deco]
            refine wpList_append_own _ rfl (.tmp 24) (.tmp 26) 27 rfl w.heap.size 3 i0 (.int .i64 0) 1 8 Tryz.underlying27 HI.out HI0.out HI1.out HI2.out rfl (by decide) _ _ _ rfl h3 ⟨_, 0, none⟩ 1 1 [.int .i64 n] rfl rfl ?c1 ?c2 ?c3 ?c4 ?c5 ?_
            case c1 =>
              intro j u hj
              have h9 := Joins.cell_of_block y6 j
              rw [← Array.getElem?_toList] at h9
              rw [show (#[Value.int .i64 n] : Array Value).toList = [.int .i64 n] from rfl, hj] at h9
              by_cases h0 : j = 0
              · subst h0; simpa [Addr.add] using h9
              · simpa [Addr.add, h0] using h9
            case c2 => exact one_oneCell rfl
            case c3 => unfold maxLen; omega
            case c4 => omega
            case c5 => exact D3.size
            intro v4 W4 hown4 hgrow _
            have hB4 := below_own D3 D3.size h3 hgrow
            clear hgrow h3 y6
            obtain ⟨v5, W5, hr5, hown5, hgrow⟩ := append_anyI (base := w.heap.size) HI.out HI0.out HI1.out HI2.out 27 (H2.out.later hB4) (by rw [HT2.out]; omega) hown4 hB4.size
            rw [HT2.out] at hr5
            refine Lib.wpList_append_run _ rfl (.tmp 27) (.tmp 30) _ _ rfl _ _ rfl rfl _ _ hr5 ?_
            have hB5 := below_own hB4 hB4.size hown4 hgrow
            clear hgrow hr5 hown4 hB4
            show wpList _ _ _ _ _ _
            go_wp2_with fail
            go_ret
            exact ⟨_, rfl, by rw [HP.out, HLN.out, List.map_append, List.map_cons]; rw [HT2.out] at hown5; simpa using hown5, hB5⟩
        · refine wpTr_step rfl rfl fun K hK => ?_
          go_simp
          refine hK _ _ (below_alloc _ _) fun V1 hu1 => ?_
          clear hK K
          have y6 := (hu1.block _ (by simp)).trans (heap_alloc_new V0 (.cells #[.int .i64 n] 3))
          have D1 := below_then D0 (below_then (below_alloc V0 (.cells #[.int .i64 n] 3)) hu1)
          clear hu1
          refine wpTr_step rfl rfl fun K hK => ?_
          go_simp
          refine hK _ _ (below_alloc _ _) fun V2 hu2 => ?_
          clear hK K
          have y0 := (hu2.block _ (by simp)).trans (heap_alloc_new V1 (.cells #[] 3))
          have D2 := below_then D1 (below_then (below_alloc V1 (.cells #[] 3)) hu2)
          have hg0 : w.heap.size ≤ V1.heap.size := D1.size
          replace y6 := ((below_then (below_alloc V1 (.cells #[] 3)) hu2).block _ (size_of_block y6)).trans y6
          clear hu2
          refine wpTr_step rfl rfl fun K hK => ?_
          obtain ⟨v3, W3, hr, h3, hb⟩ := append_catI (base := w.heap.size) HI.out HI0.out HI1.out HI2.out 27 (H1.out.later D2) (by have := HT1.out; omega) y0 hg0
          rw [HT1.out] at hr h3
          refine Lib.wp_append_run _ (.tmp 20) (.tmp 23) _ _ rfl _ _ rfl rfl _ _ hr ?_
          refine hK _ _ hb fun V3 hu3 => ?_
          clear hK K hr y0
          replace h3 := own_below h3 hu3
          have D3 := below_then D2 (below_then hb hu3)
          replace y6 := ((below_then hb hu3).block _ (size_of_block y6)).trans y6
          clear hb
          clear hu3
          show wpPure _ _ _ _
          intro ks hks _ _
          obtain rfl : ks = [] := List.length_eq_zero_iff.1 hks
          clear hks
          show wpList _ _ _ _ _ _
          simp only [deco]
          refine wpList_append_own _ rfl (.tmp 24) (.tmp 26) 27 rfl w.heap.size 3 i0 (.int .i64 0) 1 8 Tryz.underlying27 HI.out HI0.out HI1.out HI2.out rfl (by decide) _ _ _ rfl h3 ⟨_, 0, none⟩ 1 1 [.int .i64 n] rfl rfl ?c1 ?c2 ?c3 ?c4 ?c5 ?_
          case c1 =>
            intro j u hj
            have h9 := Joins.cell_of_block y6 j
            rw [← Array.getElem?_toList] at h9
            rw [show (#[Value.int .i64 n] : Array Value).toList = [.int .i64 n] from rfl, hj] at h9
            by_cases h0 : j = 0
            · subst h0; simpa [Addr.add] using h9
            · simpa [Addr.add, h0] using h9
          case c2 => exact one_oneCell rfl
          case c3 => unfold maxLen; omega
          case c4 => omega
          case c5 => exact D3.size
          intro v4 W4 hown4 hgrow _
          have hB4 := below_own D3 D3.size h3 hgrow
          clear hgrow h3 y6
          obtain ⟨v5, W5, hr5, hown5, hgrow⟩ := append_anyI (base := w.heap.size) HI.out HI0.out HI1.out HI2.out 27 (H2.out.later hB4) (by rw [HT2.out]; omega) hown4 hB4.size
          rw [HT2.out] at hr5
          refine Lib.wpList_append_run _ rfl (.tmp 27) (.tmp 30) _ _ rfl _ _ rfl rfl _ _ hr5 ?_
          have hB5 := below_own hB4 hB4.size hown4 hgrow
          clear hgrow hr5 hown4 hB4
          show wpList _ _ _ _ _ _
          go_wp2_with fail
          go_ret
          exact ⟨_, rfl, by rw [HP.out, HLN.out, List.map_append, List.map_cons]; rw [HT2.out] at hown5; simpa using hown5, hB5⟩
      · clear hgo
        go_wp2_with fail
        refine wp_region_looseM [1, 2, 3, 5, 8, 9, 10] [] (.alt (.one 0 (.alt (.one 4 (.one 6 .done)) (.one 6 (.one 4 .done)))) (.one 6 (.one 0 (.one 4 .done)))) [] [] [7, 11, 12] [] [] (by kernel_rfl) (by kernel_rfl) (by intro c a d v w h; cases d <;> exact h) (by intro c a d v w h; cases d <;> exact h) rfl (fun r i h => by simp at h) ?_
        simp only [pick, List.filterMap_cons, List.filterMap_nil, List.getElem?_toArray, List.getElem?_cons_succ, List.getElem?_cons_zero]
        refine wpPure_step (.slice A l.length cap) rfl (fun u => rfl) ?_
        refine wpPure_step (.int .i64 j) rfl (fun u => rfl) ?_
        refine wpPure_step (.slice P1 j cap) rfl (fun u => by rw [HP1.out]; simp [execOp, go_sem, hjc, hj0]) ?_
        refine wpPure_step (.int .i64 n) rfl (fun u => rfl) ?_
        refine wpPure_step (.slice A l.length cap) rfl (fun u => rfl) ?_
        refine wpPure_step (.int .i64 j) rfl (fun u => rfl) ?_
        refine wpPure_step (.slice P2 m2 c2) rfl (fun u => by rw [HP2.out, HM2.out, HC2.out]; simp [execOp, go_sem, hjl, hj0]) ?_
        intro u hu
        refine wpRel_nil fun V0 hb0 => ?_
        have D0 := below_then hu hb0
        clear hb0 hu
        refine wpTr_alt ?_ ?_
        · refine wpTr_step rfl rfl fun K hK => ?_
          go_simp
          refine hK _ _ (below_alloc _ _) fun V1 hu1 => ?_
          clear hK K
          have y0 := (hu1.block _ (by simp)).trans (heap_alloc_new V0 (.cells #[] 3))
          have D1 := below_then D0 (below_then (below_alloc V0 (.cells #[] 3)) hu1)
          have hg0 : w.heap.size ≤ V0.heap.size := D0.size
          clear hu1
          refine wpTr_alt ?_ ?_
          · refine wpTr_step rfl rfl fun K hK => ?_
            obtain ⟨v3, W3, hr, h3, hb⟩ := append_catI (base := w.heap.size) HI.out HI0.out HI1.out HI2.out 27 (H1.out.later D1) (by have := HT1.out; omega) y0 hg0
            rw [HT1.out] at hr h3
            refine Lib.wp_append_run _ (.tmp 20) (.tmp 23) _ _ rfl _ _ rfl rfl _ _ hr ?_
            refine hK _ _ hb fun V2 hu2 => ?_
            clear hK K hr y0
            replace h3 := own_below h3 hu2
            have D2 := below_then D1 (below_then hb hu2)
            clear hb
            clear hu2
            refine wpTr_step rfl rfl fun K hK => ?_
            go_simp
            refine hK _ _ (below_alloc _ _) fun V3 hu3 => ?_
            clear hK K
            have y6 := (hu3.block _ (by simp)).trans (heap_alloc_new V2 (.cells #[.int .i64 n] 3))
            have D3 := below_then D2 (below_then (below_alloc V2 (.cells #[.int .i64 n] 3)) hu3)
            replace h3 := own_below h3 (below_then (below_alloc V2 (.cells #[.int .i64 n] 3)) hu3)
            clear hu3
            show wpPure _ _ _ _
            intro ks hks _ _
            obtain rfl : ks = [] := List.length_eq_zero_iff.1 hks
            clear hks
            show wpList _ _ _ _ _ _
            simp only [deco]
            refine wpList_append_own _ rfl (.tmp 24) (.tmp 26) 27 rfl w.heap.size 3 i0 (.int .i64 0) 1 8 Tryz.underlying27 HI.out HI0.out HI1.out HI2.out rfl (by decide) _ _ _ rfl h3 ⟨_, 0, none⟩ 1 1 [.int .i64 n] rfl rfl ?c1 ?c2 ?c3 ?c4 ?c5 ?_
            case c1 =>
              intro j u hj
              have h9 := Joins.cell_of_block y6 j
              rw [← Array.getElem?_toList] at h9
              rw [show (#[Value.int .i64 n] : Array Value).toList = [.int .i64 n] from rfl, hj] at h9
              by_cases h0 : j = 0
              · subst h0; simpa [Addr.add] using h9
              · simpa [Addr.add, h0] using h9
            case c2 => exact one_oneCell rfl
            case c3 => unfold maxLen; omega
            case c4 => omega
            case c5 => exact D3.size
            intro v4 W4 hown4 hgrow _
            have hB4 := below_own D3 D3.size h3 hgrow
            clear hgrow h3 y6
            obtain ⟨v5, W5, hr5, hown5, hgrow⟩ := append_anyI (base := w.heap.size) HI.out HI0.out HI1.out HI2.out 27 (H2.out.later hB4) (by rw [HT2.out]; omega) hown4 hB4.size
            rw [HT2.out] at hr5
            refine Lib.wpList_append_run _ rfl (.tmp 27) (.tmp 30) _ _ rfl _ _ rfl rfl _ _ hr5 ?_
            have hB5 := below_own hB4 hB4.size hown4 hgrow
            clear hgrow hr5 hown4 hB4
            show wpList _ _ _ _ _ _
            go_wp2_with fail
            go_ret
            exact ⟨_, rfl, by rw [HP.out, HLN.out, List.map_append, List.map_cons]; rw [HT2.out] at hown5; simpa using hown5, hB5⟩
          · refine wpTr_step rfl rfl fun K hK => ?_
            go_simp
            refine hK _ _ (below_alloc _ _) fun V2 hu2 => ?_
            clear hK K
            have y6 := (hu2.block _ (by simp)).trans (heap_alloc_new V1 (.cells #[.int .i64 n] 3))
            have D2 := below_then D1 (below_then (below_alloc V1 (.cells #[.int .i64 n] 3)) hu2)
            replace y0 := ((below_then (below_alloc V1 (.cells #[.int .i64 n] 3)) hu2).block _ (size_of_block y0)).trans y0
            clear hu2
            refine wpTr_step rfl rfl fun K hK => ?_
            obtain ⟨v3, W3, hr, h3, hb⟩ := append_catI (base := w.heap.size) HI.out HI0.out HI1.out HI2.out 27 (H1.out.later D2) (by have := HT1.out; omega) y0 hg0
            rw [HT1.out] at hr h3
            refine Lib.wp_append_run _ (.tmp 20) (.tmp 23) _ _ rfl _ _ rfl rfl _ _ hr ?_
            refine hK _ _ hb fun V3 hu3 => ?_
            clear hK K hr y0
            replace h3 := own_below h3 hu3
            have D3 := below_then D2 (below_then hb hu3)
            replace y6 := ((below_then hb hu3).block _ (size_of_block y6)).trans y6
            clear hb
            clear hu3
            show wpPure _ _ _ _
            intro ks hks _ _
            obtain rfl : ks = [] := List.length_eq_zero_iff.1 hks
            clear hks
            show wpList _ _ _ _ _ _
            simp only [deco]
            refine wpList_append_own _ rfl (.tmp 24) (.tmp 26) 27 rfl w.heap.size 3 i0 (.int .i64 0) 1 8 Tryz.underlying27 HI.out HI0.out HI1.out HI2.out rfl (by decide) _ _ _ rfl h3 ⟨_, 0, none⟩ 1 1 [.int .i64 n] rfl rfl ?c1 ?c2 ?c3 ?c4 ?c5 ?_
            case c1 =>
              intro j u hj
              have h9 := Joins.cell_of_block y6 j
              rw [← Array.getElem?_toList] at h9
              rw [show (#[Value.int .i64 n] : Array Value).toList = [.int .i64 n] from rfl, hj] at h9
              by_cases h0 : j = 0
              · subst h0; simpa [Addr.add] using h9
              · simpa [Addr.add, h0] using h9
            case c2 => exact one_oneCell rfl
            case c3 => unfold maxLen; omega
            case c4 => omega
            case c5 => exact D3.size
            intro v4 W4 hown4 hgrow _
            have hB4 := below_own D3 D3.size h3 hgrow
            clear hgrow h3 y6
            obtain ⟨v5, W5, hr5, hown5, hgrow⟩ := append_anyI (base := w.heap.size) HI.out HI0.out HI1.out HI2.out 27 (H2.out.later hB4) (by rw [HT2.out]; omega) hown4 hB4.size
            rw [HT2.out] at hr5
            refine Lib.wpList_append_run _ rfl (.tmp 27) (.tmp 30) _ _ rfl _ _ rfl rfl _ _ hr5 ?_
            have hB5 := below_own hB4 hB4.size hown4 hgrow
            clear hgrow hr5 hown4 hB4
            show wpList _ _ _ _ _ _
            go_wp2_with fail
            go_ret
            exact ⟨_, rfl, by rw [HP.out, HLN.out, List.map_append, List.map_cons]; rw [HT2.out] at hown5; simpa using hown5, hB5⟩
        · refine wpTr_step rfl rfl fun K hK => ?_
          go_simp
          refine hK _ _ (below_alloc _ _) fun V1 hu1 => ?_
          clear hK K
          have y6 := (hu1.block _ (by simp)).trans (heap_alloc_new V0 (.cells #[.int .i64 n] 3))
          have D1 := below_then D0 (below_then (below_alloc V0 (.cells #[.int .i64 n] 3)) hu1)
          clear hu1
          refine wpTr_step rfl rfl fun K hK => ?_
          go_simp
          refine hK _ _ (below_alloc _ _) fun V2 hu2 => ?_
          clear hK K
          have y0 := (hu2.block _ (by simp)).trans (heap_alloc_new V1 (.cells #[] 3))
          have D2 := below_then D1 (below_then (below_alloc V1 (.cells #[] 3)) hu2)
          have hg0 : w.heap.size ≤ V1.heap.size := D1.size
          replace y6 := ((below_then (below_alloc V1 (.cells #[] 3)) hu2).block _ (size_of_block y6)).trans y6
          clear hu2
          refine wpTr_step rfl rfl fun K hK => ?_
          obtain ⟨v3, W3, hr, h3, hb⟩ := append_catI (base := w.heap.size) HI.out HI0.out HI1.out HI2.out 27 (H1.out.later D2) (by have := HT1.out; omega) y0 hg0
          rw [HT1.out] at hr h3
          refine Lib.wp_append_run _ (.tmp 20) (.tmp 23) _ _ rfl _ _ rfl rfl _ _ hr ?_
          refine hK _ _ hb fun V3 hu3 => ?_
          clear hK K hr y0
          replace h3 := own_below h3 hu3
          have D3 := below_then D2 (below_then hb hu3)
          replace y6 := ((below_then hb hu3).block _ (size_of_block y6)).trans y6
          clear hb
          clear hu3
          show wpPure _ _ _ _
          intro ks hks _ _
          obtain rfl : ks = [] := List.length_eq_zero_iff.1 hks
          clear hks
          show wpList _ _ _ _ _ _
          simp only [deco]
          refine wpList_append_own _ rfl (.tmp 24) (.tmp 26) 27 rfl w.heap.size 3 i0 (.int .i64 0) 1 8 Tryz.underlying27 HI.out HI0.out HI1.out HI2.out rfl (by decide) _ _ _ rfl h3 ⟨_, 0, none⟩ 1 1 [.int .i64 n] rfl rfl ?c1 ?c2 ?c3 ?c4 ?c5 ?_
          case c1 =>
            intro j u hj
            have h9 := Joins.cell_of_block y6 j
            rw [← Array.getElem?_toList] at h9
            rw [show (#[Value.int .i64 n] : Array Value).toList = [.int .i64 n] from rfl, hj] at h9
            by_cases h0 : j = 0
            · subst h0; simpa [Addr.add] using h9
            · simpa [Addr.add, h0] using h9
          case c2 => exact one_oneCell rfl
          case c3 => unfold maxLen; omega
          case c4 => omega
          case c5 => exact D3.size
          intro v4 W4 hown4 hgrow _
          have hB4 := below_own D3 D3.size h3 hgrow
          clear hgrow h3 y6
          obtain ⟨v5, W5, hr5, hown5, hgrow⟩ := append_anyI (base := w.heap.size) HI.out HI0.out HI1.out HI2.out 27 (H2.out.later hB4) (by rw [HT2.out]; omega) hown4 hB4.size
          rw [HT2.out] at hr5
          refine Lib.wpList_append_run _ rfl (.tmp 27) (.tmp 30) _ _ rfl _ _ rfl rfl _ _ hr5 ?_
          have hB5 := below_own hB4 hB4.size hown4 hgrow
          clear hgrow hr5 hown4 hB4
          show wpList _ _ _ _ _ _
          go_wp2_with fail
          go_ret
          exact ⟨_, rfl, by rw [HP.out, HLN.out, List.map_append, List.map_cons]; rw [HT2.out] at hown5; simpa using hown5, hB5⟩
end Go.Proofs.YtjpoacffnpgjdaaGreat
