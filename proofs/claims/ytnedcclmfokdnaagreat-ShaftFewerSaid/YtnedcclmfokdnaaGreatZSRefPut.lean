/- The reference's put (written by tools/gensrefput.py). -/
import Derived.Test.YtnedcclmfokdnaaGreatZSCat
import Derived.Test.YtnedcclmfokdnaaGreatJ25
import Derived.Deep.CutRange
namespace Go.Proofs.YtnedcclmfokdnaaGreat
open Go Go.RowKit Go.Shelf
attribute [local go_sem] Oper.semAt_some Rel RelAt RelUpon

set_option maxRecDepth 100000 in
set_option maxHeartbeats 4000000 in
theorem rput_nil (l : List Int) (n : Int) (w : World) (hl : l = []) : Calls Tryz.prog 127 #[.slice none 0 0, .int .i64 n] w fun e w' => ∃ u, e = .returned u ∧ w'.ownsRow w.heap.size 3 1 u (putI l n).length ((putI l n).map (Value.int .i64)) ∧ Below w.heap.size w w' := by
  subst hl
  obtain ⟨i0, hi, hz0, hz1, hz2⟩ := info_parts Tryz.infoIntT
  have HI := Lib.hid hi
  have HI0 := Lib.hid hz0
  have HI1 := Lib.hid hz1
  have HI2 := Lib.hid hz2
  clear hi hz0 hz1 hz2
  have HT1 := Lib.hid (show ([] : List Int).length = 0 from rfl)
  have HP := Lib.hid (show putI [] n = [n] from rfl)
  have HLN := Lib.hid (show ([n] : List Int).length = 1 from rfl)
  go_enter Tryz.func127, Tryz.ntmps127
  go_wp2_with fail
  go_loopw [5] (fun i wr => i = .int .i64 0 ∧ w = wr) (fun i _ => 0)
  case atStart => exact ⟨rfl, rfl⟩
  case round =>
    obtain ⟨rfl, rfl⟩ := hrel
    obtain ⟨v1, W1, hr1, ho1, hg1⟩ := append_anyI (base := w.heap.size) (l := []) (n := 0) (v := .slice none 0 0) (xs := []) HI.out HI0.out HI1.out HI2.out 27 (ints_zero w w.heap.size none 0) (by have := HT1.out; omega) (World.ownsRow_nil _ _ _ _) (Nat.le_refl _)
    rw [HT1.out] at hr1
    have HR1 := Lib.hid hr1
    have hb1 : Below w.heap.size w W1 := below_own (Below.refl _ _) (Nat.le_refl _) (World.ownsRow_nil w w.heap.size 3 1) hg1
    replace ho1 : W1.ownsRow w.heap.size 3 1 v1 0 ((([] : List Int)).map (Value.int .i64)) := by have h9 := ho1; rw [Nat.zero_add, HT1.out, List.nil_append] at h9; exact h9
    clear hr1 hg1
    have hs1 := hb1.size
    go_upto_region 6 with (at_builtin; refine Lib.wpList_append_run _ rfl _ _ _ _ rfl _ _ rfl rfl _ _ HR1.out ?_)
    go_wp2_with (at_builtin; refine wpList_append_own_at _ rfl _ _ 27 rfl w.heap.size 3 i0 (.int .i64 0) 1 8 Tryz.underlying27 HI.out HI0.out HI1.out HI2.out rfl (by decide) _ _ _ rfl (ho1.alloc _) ⟨W1.heap.size, 0, none⟩ 1 1 [.int .i64 n] rfl rfl (cell_one_new _ _ _) (one_oneCell rfl) ?c3 ?c4 ?c5 ?_)
    case c3 => unfold maxLen; omega
    case c4 => omega
    case c5 => simp; omega
    intro v2 W2 ho2 hg2 _ _
    have hb2 := below_append hb1 hs1 ho1 hg2
    obtain ⟨v3, W3, hr3, ho3, hg3⟩ := append_anyI (base := w.heap.size) (l := []) HI.out HI0.out HI1.out HI2.out 27 (ints_zero W2 W2.heap.size none 0) (by simp) ho2 hb2.size
    rw [HT1.out] at hr3
    have HR3 := Lib.hid hr3
    have hb3 := below_own hb2 hb2.size ho2 hg3
    replace ho3 : W3.ownsRow w.heap.size 3 1 v3 (1) (([n]).map (Value.int .i64)) := by have h9 := ho3; simpa using h9
    clear hr3 hg3
    go_wp2_with (at_builtin; refine Lib.wpList_append_run _ rfl _ _ _ _ rfl _ _ rfl rfl _ _ HR3.out ?_)
    go_ret
    exact ⟨_, rfl, by rw [HP.out, HLN.out]; exact ho3, hb3⟩
set_option maxRecDepth 100000 in
set_option maxHeartbeats 4000000 in
theorem rput_some (g cap : Nat) (l : List Int) (n : Int) (w : World) (hv : Ints w w.heap.size (.slice (some ⟨g, 0, none⟩) l.length cap) l) (hlen : l.length ≤ 4000) : Calls Tryz.prog 127 #[.slice (some ⟨g, 0, none⟩) l.length cap, .int .i64 n] w fun e w' => ∃ u, e = .returned u ∧ w'.ownsRow w.heap.size 3 1 u (putI l n).length ((putI l n).map (Value.int .i64)) ∧ Below w.heap.size w w' := by
  have HV := Lib.hid hv
  obtain ⟨A', c', e9, hcap, hn, hat⟩ := hv.open_
  obtain ⟨rfl, rfl⟩ : some ⟨g, 0, none⟩ = A' ∧ cap = c' := by simpa using e9
  have H := Lib.hid hat
  clear hat hv e9
  obtain ⟨i0, hi, hz0, hz1, hz2⟩ := info_parts Tryz.infoIntT
  have HI := Lib.hid hi
  have HI0 := Lib.hid hz0
  have HI1 := Lib.hid hz1
  have HI2 := Lib.hid hz2
  clear hi hz0 hz1 hz2
  go_enter Tryz.func127, Tryz.ntmps127
  go_wp2_with fail
  go_loopw [5] (fun i wr => ∃ j : Nat, j ≤ l.length ∧ i = .int .i64 j ∧ Hid (∀ x ∈ l.take j, x < n) ∧ w = wr) (fun i _ => l.length - (intOf i).toNat)
  case atStart => exact ⟨0, Nat.zero_le _, rfl, by intro x hx; simp at hx, rfl⟩
  case round =>
    obtain ⟨j, hj, rfl, hI, rfl⟩ := hrel
    have stop : (∀ x, l[j]? = some x → ¬ x < n) → Hid (putI l n = l.take j ++ n :: l.drop j) := fun h => put_split hI.out h hj
    by_cases hgo : ∃ x, l[j]? = some x ∧ x < n
    · obtain ⟨x, hx0, hc⟩ := hgo
      have hlt : j < l.length := (List.getElem?_eq_some_iff.1 hx0).1
      obtain ⟨b, off, x', hA, hb, hx1, c0⟩ := H.out j hlt
      obtain ⟨rfl, rfl⟩ : g = b ∧ 0 = off := by simpa using hA
      obtain rfl : x = x' := by rw [hx0] at hx1; exact Option.some.inj hx1
      have d1 : decide (x < n) = true := decide_eq_true hc
      have hI2 : Hid (∀ z ∈ l.take (j + 1), z < n) := by
        intro z hz
        rw [take_snoc hx0, List.mem_append, List.mem_singleton] at hz
        rcases hz with hz | rfl
        · exact hI.out z hz
        · exact hc
      rw [Nat.zero_add] at c0
      clear hx0 hx1 hc stop hA
      go_wp2_with fail
      go_roundw
      case rel => exact ⟨j + 1, by omega, by go_num, hI2, trivial⟩
      case measure => simp [intOf]; omega
    · have HP := stop fun x hx hc => hgo ⟨x, hx, hc⟩
      have hT1 : (l.take j).length = j := by rw [List.length_take]; omega
      have HT1 := Lib.hid hT1
      have hT2 : (l.drop j).length = l.length - j := by simp
      have HT2 := Lib.hid hT2
      have HLN : Hid ((l.take j ++ n :: l.drop j).length = j + 1 + (l.length - j)) := by show _ = _; rw [List.length_append, List.length_cons, hT1, hT2]; omega
      have hjc : (j : Int) ≤ cap := by omega
      have hj0 : (0 : Int) ≤ j := by omega
      have hjl : (j : Int) ≤ l.length := by omega
      obtain ⟨v1, W1, hr1, ho1, hg1⟩ := append_anyI (base := w.heap.size) (n := 0) (v := .slice none 0 0) (xs := []) HI.out HI0.out HI1.out HI2.out 27 (ints_take HV.out hj) (by have := HT1.out; omega) (World.ownsRow_nil _ _ _ _) (Nat.le_refl _)
      rw [HT1.out] at hr1
      have HR1 := Lib.hid hr1
      have hb1 : Below w.heap.size w W1 := below_own (Below.refl _ _) (Nat.le_refl _) (World.ownsRow_nil w w.heap.size 3 1) hg1
      replace ho1 : W1.ownsRow w.heap.size 3 1 v1 j ((l.take j).map (Value.int .i64)) := by have h9 := ho1; rw [Nat.zero_add, HT1.out, List.nil_append] at h9; exact h9
      clear hr1 hg1
      have hs1 := hb1.size
      clear hT1 hT2 stop
      by_cases hlt : j < l.length
      · obtain ⟨b, off, x, hA, hb, hx1, c0⟩ := H.out j hlt
        obtain ⟨rfl, rfl⟩ : g = b ∧ 0 = off := by simpa using hA
        have d1 : decide (x < n) = false := decide_eq_false fun h => hgo ⟨x, hx1, h⟩
        have h2 := ints_drop HV.out hlt
        rw [Nat.zero_add] at c0 h2
        clear hgo hx1 hA
        go_upto_region 6 with (at_builtin; refine Lib.wpList_append_run _ rfl _ _ _ _ rfl _ _ rfl rfl _ _ HR1.out ?_)
        go_wp2_with (at_builtin; refine wpList_append_own_at _ rfl _ _ 27 rfl w.heap.size 3 i0 (.int .i64 0) 1 8 Tryz.underlying27 HI.out HI0.out HI1.out HI2.out rfl (by decide) _ _ _ rfl (ho1.alloc _) ⟨W1.heap.size, 0, none⟩ 1 1 [.int .i64 n] rfl rfl (cell_one_new _ _ _) (one_oneCell rfl) ?c3 ?c4 ?c5 ?_)
        case c3 => unfold maxLen; omega
        case c4 => omega
        case c5 => simp; omega
        intro v2 W2 ho2 hg2 _ _
        have hb2 := below_append hb1 hs1 ho1 hg2
        obtain ⟨v3, W3, hr3, ho3, hg3⟩ := append_anyI (base := w.heap.size) (l := l.drop j) HI.out HI0.out HI1.out HI2.out 27 (h2.later hb2) (by rw [HT2.out]; omega) ho2 hb2.size
        rw [HT2.out] at hr3
        have HR3 := Lib.hid hr3
        have hb3 := below_own hb2 hb2.size ho2 hg3
        replace ho3 : W3.ownsRow w.heap.size 3 1 v3 (j + 1 + (l.length - j)) ((l.take j ++ n :: l.drop j).map (Value.int .i64)) := by rw [List.map_append, List.map_cons]; have h9 := ho3; rw [HT2.out] at h9; simpa using h9
        clear hr3 hg3
        go_wp2_with (at_builtin; refine Lib.wpList_append_run _ rfl _ _ _ _ rfl _ _ rfl rfl _ _ HR3.out ?_)
        go_ret
        exact ⟨_, rfl, by rw [HP.out, HLN.out]; exact ho3, hb3⟩
      · obtain rfl : j = l.length := by omega
        have hz : l.length - l.length = 0 := by omega
        rw [List.take_length] at HP HLN ho1
        rw [List.drop_length, hz] at HLN
        rw [List.drop_length] at HP
        clear hgo HT2
        by_cases hcj : cap = l.length
        · subst hcj
          go_upto_region 6 with (at_builtin; refine Lib.wpList_append_run _ rfl _ _ _ _ rfl _ _ rfl rfl _ _ HR1.out ?_)
          go_wp2_with (at_builtin; refine wpList_append_own_at _ rfl _ _ 27 rfl w.heap.size 3 i0 (.int .i64 0) 1 8 Tryz.underlying27 HI.out HI0.out HI1.out HI2.out rfl (by decide) _ _ _ rfl (ho1.alloc _) ⟨W1.heap.size, 0, none⟩ 1 1 [.int .i64 n] rfl rfl (cell_one_new _ _ _) (one_oneCell rfl) ?c3 ?c4 ?c5 ?_)
          case c3 => unfold maxLen; omega
          case c4 => omega
          case c5 => simp; omega
          intro v2 W2 ho2 hg2 _ _
          have hb2 := below_append hb1 hs1 ho1 hg2
          obtain ⟨v3, W3, hr3, ho3, hg3⟩ := append_anyI (base := w.heap.size) (l := []) HI.out HI0.out HI1.out HI2.out 27 (ints_zero W2 W2.heap.size (some ⟨g, 0, none⟩) (0)) (by simp; omega) ho2 hb2.size
          simp only [List.length_nil] at hr3
          have HR3 := Lib.hid hr3
          have hb3 := below_own hb2 hb2.size ho2 hg3
          replace ho3 : W3.ownsRow w.heap.size 3 1 v3 (l.length + 1 + 0) ((l ++ [n]).map (Value.int .i64)) := by have h9 := ho3; simpa using h9
          clear hr3 hg3
          go_wp2_with (at_builtin; refine Lib.wpList_append_run _ rfl _ _ _ _ rfl _ _ rfl rfl _ _ HR3.out ?_)
          go_ret
          exact ⟨_, rfl, by rw [HP.out, HLN.out]; exact ho3, hb3⟩
        · have hcj2 : ¬ cap = l.length := hcj
          go_upto_region 6 with (at_builtin; refine Lib.wpList_append_run _ rfl _ _ _ _ rfl _ _ rfl rfl _ _ HR1.out ?_)
          go_wp2_with (at_builtin; refine wpList_append_own_at _ rfl _ _ 27 rfl w.heap.size 3 i0 (.int .i64 0) 1 8 Tryz.underlying27 HI.out HI0.out HI1.out HI2.out rfl (by decide) _ _ _ rfl (ho1.alloc _) ⟨W1.heap.size, 0, none⟩ 1 1 [.int .i64 n] rfl rfl (cell_one_new _ _ _) (one_oneCell rfl) ?c3 ?c4 ?c5 ?_)
          case c3 => unfold maxLen; omega
          case c4 => omega
          case c5 => simp; omega
          intro v2 W2 ho2 hg2 _ _
          have hb2 := below_append hb1 hs1 ho1 hg2
          obtain ⟨v3, W3, hr3, ho3, hg3⟩ := append_anyI (base := w.heap.size) (l := []) HI.out HI0.out HI1.out HI2.out 27 (ints_zero W2 W2.heap.size (some ⟨g, l.length, none⟩) (cap - l.length)) (by simp; omega) ho2 hb2.size
          simp only [List.length_nil] at hr3
          have HR3 := Lib.hid hr3
          have hb3 := below_own hb2 hb2.size ho2 hg3
          replace ho3 : W3.ownsRow w.heap.size 3 1 v3 (l.length + 1 + 0) ((l ++ [n]).map (Value.int .i64)) := by have h9 := ho3; simpa using h9
          clear hr3 hg3
          go_wp2_with (at_builtin; refine Lib.wpList_append_run _ rfl _ _ _ _ rfl _ _ rfl rfl _ _ HR3.out ?_)
          go_ret
          exact ⟨_, rfl, by rw [HP.out, HLN.out]; exact ho3, hb3⟩
theorem rput_c (v : Value) (l : List Int) (n : Int) (B : Nat) (w : World) (hv : w.ownsRow B 3 1 v l.length (l.map (Value.int .i64))) (hlen : l.length ≤ 4000) : Calls Tryz.prog 127 #[v, .int .i64 n] w fun e w' => ∃ u, e = .returned u ∧ w'.ownsRow w.heap.size 3 1 u (putI l n).length ((putI l n).map (Value.int .i64)) ∧ Below w.heap.size w w' := by
  have hi := Ints.of_own hv (by omega)
  rcases hv.2 with ⟨rfl, h0⟩ | ⟨g, c, cur, rfl, _⟩
  · exact rput_nil l n w (List.length_eq_zero_iff.1 h0)
  · exact rput_some g c l n w hi hlen
end Go.Proofs.YtnedcclmfokdnaaGreat
