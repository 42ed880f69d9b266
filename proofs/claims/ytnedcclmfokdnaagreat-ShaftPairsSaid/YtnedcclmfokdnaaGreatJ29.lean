/- Texts joined: Open OpenS OpenT. -/
import Derived.Test.YtnedcclmfokdnaaGreatJ28
import Derived.Deep.Slices
namespace Go.Proofs.YtnedcclmfokdnaaGreat
open Go.RowKit Go.ChangeShapes Go.WideShapes Go.Deep
def allInts (P : Program) : Nat → TypeId → Bool
  | 0, _ => false
  | n + 1, t =>
    match P.underlying t with
    | some (.int .i64) => true
    | some (.array _ e) => decide (0 < P.cellsOf e) && allInts P n e && decide (P.cellsOf t % P.cellsOf e = 0) && (match P.underlying t with | some (.array m _) => decide (P.cellsOf t = m * P.cellsOf e) | _ => false)
    | some (.struct fs) => fs.toList.all (fun f => allInts P n f.type) && (List.range (P.cellsOf t)).all (fun i => fs.toList.any fun f => decide (f.offset ≤ i) && decide (i < f.offset + P.cellsOf f.type))
    | _ => false
def IsInt (v : Value) : Prop := ∃ z : Int, v = .int .i64 z ∧ -9223372036854775808 ≤ z ∧ z ≤ 9223372036854775807
section
variable {H : Type} {enc : TypeId × Value → H} {P : Program} {w : World} {base : Nat} {spare : Nat → Bool} {held : Bool}
theorem piece_at {cs : List Value} {o n i : Nat} {v : Value} (h1 : o ≤ i) (h2 : i < o + n) (h : cs[i]? = some v) : v ∈ (cs.drop o).take n := by
  refine List.mem_of_getElem? (i := i - o) ?_
  rw [List.getElem?_take, if_pos (by omega), List.getElem?_drop, show o + (i - o) = i by omega, h]
theorem ints_of_trod : ∀ (n : Nat) (t : TypeId) (fuel : Nat) (cs : List Value) (x : DataW H × List MemPlace), allInts P n t = true → DataW.trod enc P w base spare held fuel t cs = some x → ∀ v ∈ cs, IsInt v
  | 0, t, fuel, cs, x, ha, _ => by cases ha
  | n + 1, t, fuel, cs, x, ha, h => by
    intro v hv
    obtain ⟨i, hi⟩ := List.getElem?_of_mem hv
    have hil := (List.getElem?_eq_some_iff.1 hi).1
    unfold allInts at ha
    cases hu : P.underlying t with
    | none => rw [hu] at ha; cases ha
    | some u =>
      rw [hu] at ha
      split at ha
      · rename_i e
        cases e
        obtain ⟨z, rfl, _, hz⟩ := DataW.trod_int hu h
        simp only [List.mem_singleton] at hv
        have := bounds_i64 hz
        exact ⟨z, hv, by omega⟩
      · rename_i m e he
        cases he
        simp only [Bool.and_eq_true, decide_eq_true_eq] at ha
        obtain ⟨⟨⟨h0, h1⟩, _⟩, h3⟩ := ha
        obtain ⟨xs, k, _, _, hl, hx, hall⟩ := DataW.trod_array hu h
        have hq : i / P.cellsOf e < m := by
          rw [Nat.div_lt_iff_lt_mul h0]; omega
        have hxs : ∃ y, xs[i / P.cellsOf e]? = some y := ⟨xs[i / P.cellsOf e]'(by omega), List.getElem?_eq_getElem (by omega)⟩
        obtain ⟨y, hy⟩ := hxs
        refine ints_of_trod n e k _ y h1 ((hall _ hq).trans hy) v (piece_at (i := i) ?_ ?_ hi)
        · exact Nat.div_mul_le_self _ _
        · have h5 := Nat.div_add_mod i (P.cellsOf e)
          have h6 := Nat.mod_lt i h0
          have h7 := Nat.mul_comm (P.cellsOf e) (i / P.cellsOf e)
          omega
      · rename_i fs he
        cases he
        simp only [Bool.and_eq_true, List.all_eq_true, List.mem_range, List.any_eq_true, decide_eq_true_eq] at ha
        obtain ⟨xs, k, _, _, hl, hx, hall⟩ := DataW.trod_struct hu h
        obtain ⟨f, hf, h1, h2⟩ := ha.2 i (by omega)
        obtain ⟨j, hj⟩ := List.getElem?_of_mem hf
        have hj' : fs[j]? = some f := by simpa using hj
        have hjl : j < xs.length := by rw [hx]; have := (List.getElem?_eq_some_iff.1 hj).1; simpa using this
        exact ints_of_trod n f.type k _ xs[j] (ha.1 f hf) ((hall j f hj').trans (List.getElem?_eq_getElem hjl)) v (piece_at h1 h2 hi)
      · cases ha
end
end Go.Proofs.YtnedcclmfokdnaaGreat
namespace Go.Proofs.YtnedcclmfokdnaaGreat
open Go.RowKit Go.ChangeShapes Go.WideShapes Go.Deep
section
variable {H : Type} {enc : TypeId × Value → H} {P : Program} {w : World} {base : Nat} {spare : Nat → Bool} {held : Bool}
end
end Go.Proofs.YtnedcclmfokdnaaGreat
namespace Go.Proofs.YtnedcclmfokdnaaGreat
open Go.RowKit Go.ChangeShapes Go.WideShapes Go.Deep
section
variable {H : Type} {enc : TypeId × Value → H} {P : Program} {w : World} {base : Nat} {spare : Nat → Bool} {held : Bool}
theorem open_cellsT {α : Type} [Inhabited α] {c : α → List Value} {s : Nat} {t e : TypeId} {fuel : Nat} {cs : List Value} {X : DataW H × List MemPlace} (ht : P.underlying t = some (.slice e)) (he : P.cellsOf e = s) (hs : 0 < s)
    (hc : ∀ (fuel : Nat) (cs : List Value) (x : DataW H × List MemPlace), DataW.trod enc P w base spare held fuel e cs = some x → cs.length = s → ∃ x, c x = cs)
    (hf : DataW.trod enc P w base spare held fuel t cs = some X) : ∃ v, cs = [v] ∧ ((∃ l : List α, Sl c s w w.heap.size v l) ∨ ∃ A n cap, v = .slice A n cap ∧ 140737488355328 < n) := by
  rcases open_slice ht hf with ⟨h0, _⟩ | ⟨a, len, cap, m, k, D, Pl, h0, hb, hl, hm, hmm, _, hx⟩
  · exact ⟨_, h0, .inl ⟨[], Sl.nil_⟩⟩
  · refine ⟨_, h0, ?_⟩
    rcases Nat.lt_or_ge 140737488355328 len with hbig | hsmall
    · exact .inr ⟨_, _, _, rfl, hbig⟩
    left
    have hle : len ≤ m := by rw [hmm]; split <;> omega
    obtain ⟨f, hf2⟩ := choose_lt (α := α) (n := len) (p := fun i x => w.cells? base (a.add (i * P.cellsOf e)) (P.cellsOf e) = some (c x)) fun i hi => by
      obtain ⟨cs', h1, h2⟩ := hx i (by omega)
      obtain ⟨_, h3, _⟩ := World.cells?_some h1
      obtain ⟨x, rfl⟩ := hc _ cs' _ h2 (h3.trans he)
      exact ⟨x, h1⟩
    refine ⟨(List.range len).map f, some a, cap, by simp, by simpa using hl, by simpa using hsmall, fun hn => ?_⟩
    simp only [List.length_map, List.length_range] at hn
    have h1 := hf2 0 hn
    obtain ⟨_, h3, h4⟩ := World.cells?_some h1
    have h5 := h4 0 (by omega)
    rw [Nat.zero_mul] at h5
    have h6 : w.cell? a = (c (f 0))[0]? := by simpa [Addr.add] using h5
    rw [List.getElem?_eq_getElem (by omega)] at h6
    obtain ⟨b, off, spot⟩ := a
    have hsp : spot = none := by
      unfold World.cell? at h6
      split at h6
      · cases spot with
        | none => rfl
        | some _ => simp at h6
      · cases h6
    subst hsp
    refine ⟨b, off, rfl, ?_, fun i x hix j u hu => ?_⟩
    · rcases Nat.lt_or_ge b w.heap.size with hlt | hge
      · exact hlt
      · unfold World.cell? at h6
        rw [Array.getElem?_eq_none hge] at h6
        cases h6
    · have hi : i < len := by have := (List.getElem?_eq_some_iff.1 hix).1; simpa using this
      rw [List.getElem?_map, List.getElem?_range hi] at hix
      simp only [Option.map_some, Option.some.injEq] at hix
      subst hix
      obtain ⟨_, h7, h8⟩ := World.cells?_some (hf2 i hi)
      have hj := (List.getElem?_eq_some_iff.1 hu).1
      have h9 := h8 j (by omega)
      rw [hu] at h9
      rw [← h9, he]
      congr 1
      unfold Addr.add
      split
      · split
        · rename_i e1 e2; rw [e1, e2]; simp
        · rename_i e1 e2; rw [e1]; simp
      · split
        · rename_i e1 e2; rw [e2]; simp
        · simp
theorem open_rowsT {α : Type} [Inhabited α] {c : α → List Value} {s : Nat} {t e : TypeId} {fuel : Nat} {cs : List Value} {X : DataW H × List MemPlace} (n : Nat) (ht : P.underlying t = some (.slice e)) (he : P.cellsOf e = s) (hs : 0 < s) (ha : allInts P n e = true)
    (hc : ∀ cs : List Value, cs.length = s → (∀ u ∈ cs, IsInt u) → ∃ x, c x = cs)
    (hf : DataW.trod enc P w base spare held fuel t cs = some X) : ∃ v, cs = [v] ∧ ((∃ l : List α, Sl c s w w.heap.size v l) ∨ ∃ A n cap, v = .slice A n cap ∧ 140737488355328 < n) :=
  open_cellsT ht he hs (fun fuel cs x hx hl => hc cs hl (ints_of_trod n e fuel cs x ha hx)) hf
end
end Go.Proofs.YtnedcclmfokdnaaGreat
