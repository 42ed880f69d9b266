/- Appends of whole slices of numbers (no program besides the numbers of types). -/
import Derived.Test.YtnedcclmfokdnaaGreatJ25
import Derived.Test.YtnedcclmfokdnaaGreatJ10
import Derived.Test.YtnedcclmfokdnaaGreatJ15
namespace Go.Proofs.YtnedcclmfokdnaaGreat
open Go Go.RowKit Go.Shelf
attribute [local go_sem] Oper.semAt_some Rel RelAt RelUpon

theorem run_append_none {P : Program} {w : World} (base : Nat) (t ty e : TypeId) (i : TypeInfo) (size c : Nat) (ht : P.underlying t = some (.slice e)) (hi : P.info? e = some i)
    (v : Value) (n : Nat) (xs : List Value) (hown : w.ownsRow base e size v n xs) :
    (Builtin.append_ #[t, t] ty #[v, .slice none 0 c]).run P w = .ok v w := by
  rcases hown.2 with ⟨rfl, rfl⟩ | ⟨g, cap, cur, rfl, _, _, hnc, _⟩
  · simp [Builtin.append_, run_underlying ht, sizeOf, typeInfo, hi, Builtin.lenOf, Builtin.firstCells]
  · simp [Builtin.append_, run_underlying ht, sizeOf, typeInfo, hi, Builtin.lenOf, Builtin.firstCells, hnc, storeCells]
theorem setRow_same {w : World} {g : Nat} {cs : Array Value} {t : TypeId} (h : w.heap[g]? = some (.cells cs t)) : w.setRow g cs = w := by
  have hg : g < w.heap.size := (Array.getElem?_eq_some_iff.1 h).1
  have e1 : w.heap[g] = .cells cs t := (Array.getElem?_eq_some_iff.1 h).2
  have key : (w.setRow g cs).heap = w.heap := by
    refine Array.ext (by rw [size_setRow]) fun i h1 h2 => ?_
    by_cases hi : i = g
    · subst hi
      have := setRow_heap w i cs cs t (0, 0) h
      rw [Array.getElem?_eq_getElem h1] at this
      rw [Option.some.inj this, e1]
    · have := setRow_other w g i cs hi
      rw [Array.getElem?_eq_getElem h1, Array.getElem?_eq_getElem h2] at this
      exact Option.some.inj this
  show ({ w with heap := (w.setRow g cs).heap } : World) = w
  rw [key]
theorem int_cells {w : World} {B cap : Nat} {ad : Addr} {l : List Int} (h : Ints w B (.slice (some ad) l.length cap) l) : ∀ j u, (l.map (Value.int .i64))[j]? = some u → w.cell? (ad.add j) = some u := fun j u hu => by
  obtain ⟨A', c', e, hl1, hl2, h3⟩ := h
  have hj : j < l.length := by have := (List.getElem?_eq_some_iff.1 hu).1; simpa using this
  obtain ⟨b, off, e2, hb, hc⟩ := h3 (by omega)
  have hx := List.getElem?_eq_getElem hj
  have hcell := hc j _ hx 0 _ rfl
  rw [List.getElem?_map, hx] at hu
  rw [← Option.some.inj hu]
  simp only [Value.slice.injEq] at e
  rw [e2] at e
  obtain rfl := Option.some.inj e.1
  rw [show off + j * 1 + 0 = off + j by omega] at hcell
  simp only [Addr.add]
  by_cases h0 : j = 0
  · subst h0; simpa using hcell
  · simpa [h0] using hcell
theorem int_one (l : List Int) : ∀ u ∈ l.map (Value.int .i64), u.oneCell' = true := fun u hu => by
  obtain ⟨x, _, rfl⟩ := List.mem_map.1 hu; rfl
theorem int_none {w : World} {B cap : Nat} {l : List Int} (h : Ints w B (.slice none l.length cap) l) : l = [] := by
  rcases l with _ | ⟨x, l⟩
  · rfl
  · obtain ⟨A', c', e, _, _, h3⟩ := h
    obtain ⟨b, off, e2, _⟩ := h3 (by simp)
    simp only [Value.slice.injEq] at e
    rw [e2] at e; cases e.1
theorem ints_sliced {w : World} {B : Nat} {A : Option Addr} {cap lo hi : Nat} {l : List Int} (h : Ints w B (.slice A l.length cap) l) (h1 : lo ≤ hi) (h2 : hi ≤ l.length) : Ints w B (.slice (if cap = lo then A else A.map (·.add (lo * 1))) (hi - lo) (cap - lo)) ((l.take hi).drop lo) := by
  obtain ⟨A', c', e, hl1, hl2, h3⟩ := h
  simp only [Value.slice.injEq] at e
  obtain ⟨rfl, -, rfl⟩ := e
  have hlen : ((l.take hi).drop lo).length = hi - lo := by simp; omega
  refine ⟨_, _, by rw [hlen], by rw [hlen]; omega, by rw [hlen]; omega, fun hp => ?_⟩
  rw [hlen] at hp
  obtain ⟨b, off, rfl, hb, hc⟩ := h3 (by omega)
  refine ⟨b, off + lo, ?_, hb, fun i x hx j u hu => ?_⟩
  · rw [if_neg (by omega)]
    simp only [Option.map_some, Nat.mul_one, Addr.add]
    by_cases h0 : lo = 0
    · subst h0; simp
    · simp [h0]
  · have hx2 : l[lo + i]? = some x := by
      rw [List.getElem?_drop, List.getElem?_take] at hx
      split at hx
      · exact hx
      · cases hx
    have := hc (lo + i) x hx2 j u hu
    rw [← this]; congr 2; omega
theorem ints_zero (w : World) (B : Nat) (A : Option Addr) (c : Nat) : Ints w B (.slice A 0 c) [] := ⟨A, c, rfl, Nat.zero_le _, Nat.zero_le _, fun h => absurd h (by simp)⟩
theorem ints_dropped (w : World) (B j : Nat) (A : Option Addr) (c : Nat) (l : List Int) (h : l.length ≤ j) : Ints w B (.slice A (l.drop j).length c) (l.drop j) := by
  rw [List.drop_eq_nil_of_le h]; exact ints_zero w B A c
theorem ints_take {w : World} {B : Nat} {A : Option Addr} {cap j : Nat} {l : List Int} (h : Ints w B (.slice A l.length cap) l) (hj : j ≤ l.length) : Ints w B (.slice A (l.take j).length cap) (l.take j) := by
  obtain ⟨A', c', e, hl1, hl2, h3⟩ := h
  simp only [Value.slice.injEq] at e
  obtain ⟨rfl, -, rfl⟩ := e
  have hlen : (l.take j).length = j := by rw [List.length_take]; omega
  refine ⟨_, _, rfl, by rw [hlen]; omega, by rw [hlen]; omega, fun hp => ?_⟩
  rw [hlen] at hp
  obtain ⟨b, off, rfl, hb, hc⟩ := h3 (by omega)
  refine ⟨b, off, rfl, hb, fun i x hx k u hu => hc i x ?_ k u hu⟩
  rw [List.getElem?_take] at hx
  split at hx
  · exact hx
  · cases hx
theorem ints_drop {w : World} {B b off : Nat} {cap j : Nat} {l : List Int} (h : Ints w B (.slice (some ⟨b, off, none⟩) l.length cap) l) (hj : j < l.length) : Ints w B (.slice (some ⟨b, off + j, none⟩) (l.drop j).length (cap - j)) (l.drop j) := by
  obtain ⟨A', c', e, hl1, hl2, h3⟩ := h
  simp only [Value.slice.injEq] at e
  obtain ⟨rfl, -, rfl⟩ := e
  have hlen : (l.drop j).length = l.length - j := by simp
  refine ⟨_, _, rfl, by rw [hlen]; omega, by rw [hlen]; omega, fun hp => ?_⟩
  obtain ⟨b', off', e2, hb, hc⟩ := h3 (by omega)
  obtain ⟨rfl, rfl⟩ : b = b' ∧ off = off' := by simpa using e2
  refine ⟨b, off + j, rfl, hb, fun i x hx k u hu => ?_⟩
  have hx2 : l[j + i]? = some x := by rw [← List.getElem?_drop]; exact hx
  have := hc (j + i) x hx2 k u hu
  rw [← this]; congr 2; omega
/-- What an append of a slice to an empty literal leaves: the slice's numbers, in memory of its own. -/
theorem append_catI {w : World} {A : Option Addr} {l : List Int} {cap g base : Nat} {i : TypeInfo} (hi : Tryz.prog.info? 3 = some i) (hz0 : i.zero = some (.int .i64 0)) (hz1 : i.size = 1) (hz2 : i.bytes = 8)
    (ty : TypeId) (hk : Ints w w.heap.size (.slice A l.length cap) l) (hlen : l.length ≤ 5000) (hg : w.heap[g]? = some (.cells #[] 3)) (hb : base ≤ g) :
    ∃ v' w', (Builtin.append_ #[27, 27] ty #[.slice (some ⟨g, 0, none⟩) 0 0, .slice A l.length cap]).run Tryz.prog w = .ok v' w' ∧ w'.ownsRow base 3 1 v' l.length (l.map (Value.int .i64)) ∧ Below w.heap.size w w' := by
  have hgs := size_of_block hg
  have hown : w.ownsRow base 3 1 (.slice (some ⟨g, 0, none⟩) 0 0) 0 [] := ⟨rfl, .inr ⟨g, 0, #[], rfl, hb, hg, Nat.le_refl _, by unfold maxLen; omega, rfl, rfl⟩⟩
  cases A with
  | none =>
    obtain rfl := int_none hk
    exact ⟨_, _, run_append_none base _ ty _ i 1 cap Tryz.underlying27 hi _ _ _ hown, hown, Below.refl _ _⟩
  | some ad =>
    have hnews := int_cells hk
    by_cases h0 : l.length = 0
    · obtain rfl := List.length_eq_zero_iff.1 h0
      have hr := run_append_room (P := Tryz.prog) w 27 ty 3 i Tryz.underlying27 hi g 0 0 #[] hg ad 0 cap [] (by simp) (by simp) (by simp) (Nat.le_refl _) (by simp)
      have hs : w.setRow g ((#[] : Array Value).toList.take (0 * i.size) ++ [] ++ (#[] : Array Value).toList.drop (0 * i.size + ([] : List Value).length)).toArray = w := setRow_same (by simpa using hg)
      rw [hs] at hr
      exact ⟨_, _, hr, hown, Below.refl _ _⟩
    · have hr := run_append_grow (P := Tryz.prog) w 27 ty 3 i _ Tryz.underlying27 hi hz0 ⟨g, 0, none⟩ 0 0 [] (by simp) (by simp) ad l.length cap (l.map (Value.int .i64)) (by rw [hz1]; simp) hnews (by omega) (by omega) (growslice_fits (by omega) (by rw [hz2]; omega))
      have hge := grownCap_ge w (0 + l.length) 0 3
      have hcm := grownCap_le_maxLen w (0 + l.length) 0 3 (by unfold maxLen; omega)
      refine ⟨_, _, hr, ⟨by simp, .inr ⟨w.heap.size, _, _, by rw [Nat.zero_add], Nat.le_of_lt (Nat.lt_of_le_of_lt hb hgs), heap_alloc_new w.drew _, by omega, hcm, ?_, ?_⟩⟩, ((Below.refl _ w).drew).alloc (Nat.le_refl _) _⟩
      · simp only [Array.size_append, List.size_toArray, size_zeroCells, List.length_map, List.length_nil]
        show 0 + l.length + (grownCap w (0 + l.length) 0 3 - (0 + l.length)) * 1 = _
        omega
      · simp only [Array.toList_append, List.nil_append, Nat.mul_one]
        have hm : (l.map (Value.int .i64)).length = l.length := List.length_map ..
        rw [← hm]
        exact List.take_left
/-- An append of whatever slice of numbers. -/
theorem append_anyI {w : World} {A : Option Addr} {l : List Int} {cap base n : Nat} {v : Value} {xs : List Value} {i : TypeInfo} (hi : Tryz.prog.info? 3 = some i) (hz0 : i.zero = some (.int .i64 0)) (hz1 : i.size = 1) (hz2 : i.bytes = 8)
    (ty : TypeId) (hk : Ints w w.heap.size (.slice A l.length cap) l) (hlen : n + l.length ≤ 10000) (hown : w.ownsRow base 3 1 v n xs) (hb : base ≤ w.heap.size) :
    ∃ v' w', (Builtin.append_ #[27, 27] ty #[v, .slice A l.length cap]).run Tryz.prog w = .ok v' w' ∧ w'.ownsRow base 3 1 v' (n + l.length) (xs ++ l.map (Value.int .i64)) ∧ w.grownBy w' v.ownBlock := by
  cases A with
  | none =>
    obtain rfl := int_none hk
    exact ⟨_, _, run_append_none base _ ty _ i 1 cap Tryz.underlying27 hi _ _ _ hown, by simpa using hown, ⟨rfl, rfl, rfl, Nat.le_refl _, fun _ _ _ => rfl⟩⟩
  | some ad =>
    obtain ⟨v', w', hr, h1, h2, _⟩ := run_append_own (P := Tryz.prog) w base 27 ty 3 i _ 1 8 Tryz.underlying27 hi hz0 hz1 hz2 rfl (by decide) v n xs hown ad l.length cap (l.map (Value.int .i64)) (by simp) (int_cells hk) (int_one l) (by unfold maxLen; omega) (by omega) hb
    exact ⟨v', w', hr, h1, h2⟩
/-- A number put into a list in increasing order: where. -/
theorem put_split {n : Int} : ∀ {l : List Int} {j : Nat}, (∀ x ∈ l.take j, x < n) → (∀ x, l[j]? = some x → ¬ x < n) → j ≤ l.length → putI l n = l.take j ++ n :: l.drop j := by
  intro l
  induction l with
  | nil => intro j _ _ hj; simp [putI]
  | cons y l ih =>
    intro j h1 h2 hj
    cases j with
    | zero =>
      have := h2 y (by simp)
      simp [putI, this]
    | succ j =>
      have hy : y < n := h1 y (by simp)
      have := ih (j := j) (fun x hx => h1 x (by simp [hx])) (fun x hx => h2 x (by simpa using hx)) (by simpa using hj)
      unfold putI
      rw [if_pos hy, this]
      simp
theorem putI_len (l : List Int) (n : Int) : (putI l n).length = l.length + 1 := by
  induction l with
  | nil => rfl
  | cons y l ih =>
    unfold putI
    split
    · simp [ih]
    · simp
end Go.Proofs.YtnedcclmfokdnaaGreat
