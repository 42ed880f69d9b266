/- A slice of looks appended to an empty one. -/
import Derived.Test.YtjpoacffnpgjdaaGreatJ25
import Derived.Lib.AppendZeros
namespace Go.Proofs.YtjpoacffnpgjdaaGreat
open Go Go.RowKit Go.Shelf

theorem run_append_none {P : Program} {w : World} (base : Nat) (t ty e : TypeId) (i : TypeInfo) (size c : Nat) (ht : P.underlying t = some (.slice e)) (hi : P.info? e = some i)
    (v : Value) (n : Nat) (xs : List Value) (hown : w.ownsRow base e size v n xs) :
    (Builtin.append_ #[t, t] ty #[v, .slice none 0 c]).run P w = .ok v w := by
  rcases hown.2 with ⟨rfl, rfl⟩ | ⟨g, cap, cur, rfl, _, _, hnc, _⟩
  · simp [Builtin.append_, run_underlying ht, sizeOf, typeInfo, hi, Builtin.lenOf, Builtin.firstCells]
  · simp [Builtin.append_, run_underlying ht, sizeOf, typeInfo, hi, Builtin.lenOf, Builtin.firstCells, hnc, storeCells]
theorem setRow_same {w : World} {g : Nat} {cs : Array Value} {t : TypeId} (h : w.heap[g]? = some (.cells cs t)) : w.setRow g cs = w := by
  have hg : g < w.heap.size := (Array.getElem?_eq_some_iff.1 h).1
  have e1 : w.heap[g] = .cells cs t := (Array.getElem?_eq_some_iff.1 h).2
  have key : (w.setRow g cs).heap = w.heap := by
    refine Array.ext (by rw [size_setRow]) fun i h1 h2 => ?_
    by_cases hi : i = g
    · subst hi
      have := setRow_heap w i cs cs t (0, 0) h
      rw [Array.getElem?_eq_getElem h1] at this
      rw [Option.some.inj this, e1]
    · have := setRow_other w g i cs hi
      rw [Array.getElem?_eq_getElem h1, Array.getElem?_eq_getElem h2] at this
      exact Option.some.inj this
  show ({ w with heap := (w.setRow g cs).heap } : World) = w
  rw [key]
/-- What an append of a slice to an empty literal leaves: the slice's elements, in memory of its own. -/
theorem append_cat {w : World} {A : Option Addr} {l : List Lk} {cap g base : Nat} {i : TypeInfo} (hi : Tryz.prog.info? 90 = some i) (hz0 : i.zero = some (.agg #[.int .i64 0, .int .i64 0, .int .i64 0, .int .i64 0, .int .i64 0])) (hz1 : i.size = 5) (hz2 : i.bytes = 40)
    (ty : TypeId) (hk : Lks w w.heap.size (.slice A l.length cap) l) (hlen : l.length ≤ 5000) (hg : w.heap[g]? = some (.cells #[] 90)) (hb : base ≤ g) :
    ∃ v' w', (Builtin.append_ #[22, 22] ty #[.slice (some ⟨g, 0, none⟩) 0 0, .slice A l.length cap]).run Tryz.prog w = .ok v' w' ∧ w'.ownsRow base 90 5 v' l.length (l.flatMap lkC) ∧ Below w.heap.size w w' := by
  have hgs := size_of_block hg
  have hown : w.ownsRow base 90 5 (.slice (some ⟨g, 0, none⟩) 0 0) 0 [] := ⟨rfl, .inr ⟨g, 0, #[], rfl, hb, hg, Nat.le_refl _, by unfold maxLen; omega, rfl, rfl⟩⟩
  cases A with
  | none =>
    obtain rfl : l = [] := by
      rcases l with _ | ⟨x, l⟩
      · rfl
      · obtain ⟨A', c', e, _, _, h3⟩ := hk
        obtain ⟨b, off, e2, _⟩ := h3 (by simp)
        simp only [Value.slice.injEq] at e
        rw [e2] at e; cases e.1
    exact ⟨_, _, run_append_none base _ ty _ i 5 cap Tryz.underlying22 hi _ _ _ hown, hown, Below.refl _ _⟩
  | some ad =>
    have hnews := look_cells hk
    by_cases h0 : l.length = 0
    · obtain rfl := List.length_eq_zero_iff.1 h0
      have hr := run_append_room (P := Tryz.prog) w 22 ty 90 i Tryz.underlying22 hi g 0 0 #[] hg ad 0 cap [] (by simp) (by simp) (by simp) (Nat.le_refl _) (by simp)
      have hs : w.setRow g ((#[] : Array Value).toList.take (0 * i.size) ++ [] ++ (#[] : Array Value).toList.drop (0 * i.size + ([] : List Value).length)).toArray = w := setRow_same (by simpa using hg)
      rw [hs] at hr
      exact ⟨_, _, hr, hown, Below.refl _ _⟩
    · have hr := run_append_grow (P := Tryz.prog) w 22 ty 90 i _ Tryz.underlying22 hi hz0 ⟨g, 0, none⟩ 0 0 [] (by simp) (by simp) ad l.length cap (l.flatMap lkC) (by rw [hz1]; exact flat_length lkC_len l) hnews (by omega) (by omega) (growslice_fits (by omega) (by rw [hz2]; omega))
      have hge := grownCap_ge w (0 + l.length) 0 90
      have hcm := grownCap_le_maxLen w (0 + l.length) 0 90 (by unfold maxLen; omega)
      refine ⟨_, _, hr, ⟨flat_length lkC_len l, .inr ⟨w.heap.size, _, _, by rw [Nat.zero_add], Nat.le_of_lt (Nat.lt_of_le_of_lt hb hgs), heap_alloc_new w.drew _, by omega, hcm, ?_, ?_⟩⟩, ((Below.refl _ w).drew).alloc (Nat.le_refl _) _⟩
      · simp only [Array.size_append, List.size_toArray, size_zeroCells, flat_length lkC_len l, List.length_nil]
        show 0 + l.length * 5 + (grownCap w (0 + l.length) 0 90 - (0 + l.length)) * 5 = _
        omega
      · simp only [Array.toList_append, List.nil_append]
        rw [← flat_length lkC_len l]
        exact List.take_left
end Go.Proofs.YtjpoacffnpgjdaaGreat
