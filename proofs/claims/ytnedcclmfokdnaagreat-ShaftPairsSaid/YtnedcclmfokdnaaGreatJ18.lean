/- Texts joined: STab. -/
import Derived.Test.YtnedcclmfokdnaaGreatJ3
import Derived.Test.YtnedcclmfokdnaaGreatJ2
import Derived.Test.YtnedcclmfokdnaaGreatJ11
import Derived.Lib.SmallJoins
import Derived.Lib.MinMax
import Derived.StillTailTactics
namespace Go.Proofs.YtnedcclmfokdnaaGreat
open Go Go.RowKit
theorem Tryz.infoIntT : (Tryz.prog.info? 3).map (fun i => (i.zero, i.size, i.bytes)) = some (some (.int .i64 0), 1, 8) := by kernel_rfl
def rowD (D : Int → Int → Int) (N : Nat) (x : Int) : List Value := (List.range N).map fun (y : Nat) => Value.int .i64 (D x (y : Int))
theorem rowD_at {D : Int → Int → Int} {N y : Nat} {x : Int} (h : y < N) : (rowD D N x)[y]? = some (.int .i64 (D x y)) := by
  unfold rowD; rw [List.getElem?_map, List.getElem?_range h]; rfl
theorem rowD_len (D : Int → Int → Int) (N : Nat) (x : Int) : (rowD D N x).length = N := by simp [rowD]
theorem rowD_set {D : Int → Int → Int} {N y : Nat} {x v : Int} (h : y < N) : (rowD D N x).set y (.int .i64 v) = rowD (updT D x y v) N x := by
  apply List.ext_getElem?
  intro j
  rw [List.getElem?_set]
  by_cases e : y = j
  · subst e
    rw [if_pos rfl, if_pos (by rw [rowD_len]; exact h), rowD_at h]
    unfold updT; rw [if_pos ⟨rfl, rfl⟩]
  · rw [if_neg e]
    by_cases hj : j < N
    · rw [rowD_at hj, rowD_at hj]
      unfold updT; rw [if_neg (by rintro ⟨_, h2⟩; omega)]
    · rw [List.getElem?_eq_none (by rw [rowD_len]; omega), List.getElem?_eq_none (by rw [rowD_len]; omega)]
theorem rowD_other {D : Int → Int → Int} {N : Nat} {x y z v : Int} (h : z ≠ x) : rowD (updT D x y v) N z = rowD D N z := by
  unfold rowD
  refine List.map_congr_left fun j _ => ?_
  unfold updT; rw [if_neg (by rintro ⟨h2, _⟩; exact h h2)]
def rowsD (bs cp : Nat → Nat) (N i : Nat) : List Value := (List.range i).map fun j => .slice (some ⟨bs j, 0, none⟩) N (cp j)
theorem own_apartT {w : World} {B B' e e' s s' n n' g : Nat} {v v' : Value} {xs xs' : List Value} (h : w.ownsRow B e s v n xs) (h' : w.ownsRow B' e' s' v' n' xs') (hv : v.ownBlock = some g) (he : e ≠ e') : v'.ownBlock ≠ some g := by
  intro hv'
  rcases h.2 with ⟨rfl, _⟩ | ⟨g1, c1, cur1, rfl, _, hh, _⟩
  · simp [Value.ownBlock] at hv
  · rcases h'.2 with ⟨rfl, _⟩ | ⟨g2, c2, cur2, rfl, _, hh', _⟩
    · simp [Value.ownBlock] at hv'
    · simp only [Value.ownBlock, Option.some.injEq] at hv hv'
      subst hv; subst hv'
      rw [hh] at hh'
      simp only [Option.some.injEq, Obj.cells.injEq] at hh'
      exact he hh'.2.1
structure TabD (B : Nat) (wr : World) (v : Value) (N i : Nat) (bs cp : Nat → Nat) (D : Int → Int → Int) : Prop where
  own : wr.ownsRow B 27 1 v i (rowsD bs cp N i)
  row : ∀ j, j < i → wr.ownsRow B 3 1 (.slice (some ⟨bs j, 0, none⟩) N (cp j)) N (rowD D N j)
  inj : ∀ j j', j < i → j' < i → j ≠ j' → bs j ≠ bs j'
theorem TabD.later {B : Nat} {wr w' : World} {v : Value} {N i : Nat} {bs cp : Nat → Nat} {D : Int → Int → Int} (h : TabD B wr v N i bs cp D) (hb : Below wr.heap.size wr w') : TabD B w' v N i bs cp D :=
  ⟨own_later h.own hb, fun j hj => own_later (h.row j hj) hb, h.inj⟩
theorem TabD.cell {B : Nat} {wr : World} {v : Value} {N i : Nat} {bs cp : Nat → Nat} {D : Int → Int → Int} (h : TabD B wr v N i bs cp D) {j k : Nat} (hj : j < i) (hk : k < N) : wr.cell? ⟨bs j, k, none⟩ = some (.int .i64 (D j k)) :=
  ((h.row j hj).cellAt k (by omega)).trans (rowD_at hk)
theorem TabD.at_ {B g cap : Nat} {wr : World} {N i : Nat} {bs cp : Nat → Nat} {D : Int → Int → Int} (h : TabD B wr (.slice (some ⟨g, 0, none⟩) i cap) N i bs cp D) {j : Nat} (hj : j < i) : wr.cell? ⟨g, j, none⟩ = some (.slice (some ⟨bs j, 0, none⟩) N (cp j)) :=
  (h.own.cellAt j (by omega)).trans (by unfold rowsD; rw [List.getElem?_map, List.getElem?_range hj]; rfl)
theorem TabD.frozen {B : Nat} {wr : World} {v : Value} {N i : Nat} {bs cp : Nat → Nat} {D : Int → Int → Int} (h : TabD B wr v N i bs cp D) {j : Nat} (hj : j < i) (k : Nat) : wr.frozen? ⟨bs j, k, none⟩ = false := (h.row j hj).frozenAt k
theorem TabD.lt {B : Nat} {wr : World} {v : Value} {N i : Nat} {bs cp : Nat → Nat} {D : Int → Int → Int} (h : TabD B wr v N i bs cp D) {j : Nat} (hj : j < i) : B ≤ bs j ∧ bs j < wr.heap.size := (h.row j hj).lt _ rfl
theorem TabD.store {B : Nat} {wr : World} {v : Value} {N i : Nat} {bs cp : Nat → Nat} {D : Int → Int → Int} (h : TabD B wr v N i bs cp D) {x y : Nat} (hx : x < i) (hy : y < N) (u : Int) :
    TabD B (wr.setCell ⟨bs x, y, none⟩ (.int .i64 u)) v N i bs cp (updT D x y u) := by
  have hne : v.ownBlock ≠ some (bs x) := own_apartT (h.row x hx) h.own rfl (by decide)
  refine ⟨own_setCell h.own y _ hne, fun j hj => ?_, h.inj⟩
  by_cases e : j = x
  · subst e
    have := ((h.row j hj).stored y (.int .i64 u)).1
    rwa [rowD_set hy] at this
  · rw [rowD_other (by omega)]
    exact own_setCell (h.row j hj) y _ (by simpa [Value.ownBlock] using h.inj j x hj hx e)
theorem TabD.push {B B2 r c : Nat} {w1 w2 : World} {v v' : Value} {N i : Nat} {bs cp : Nat → Nat} {D : Int → Int → Int} (h : TabD B w1 v N i bs cp D) (hB : B ≤ B2) (hlt : ∀ j, j < i → bs j < B2)
    (hr : w1.ownsRow B2 3 1 (.slice (some ⟨r, 0, none⟩) N c) N (rowD D N i))
    (hown : w2.ownsRow B 27 1 v' (i + 1) (rowsD bs cp N i ++ [.slice (some ⟨r, 0, none⟩) N c])) (hg : w1.grownBy w2 v.ownBlock) : TabD B w2 v' N (i + 1) (fun j => if j = i then r else bs j) (fun j => if j = i then c else cp j) D := by
  have keep : ∀ {g n c : Nat} {xs : List Value}, w1.ownsRow B 3 1 (.slice (some ⟨g, 0, none⟩) n c) n xs → w2.ownsRow B 3 1 (.slice (some ⟨g, 0, none⟩) n c) n xs := fun {g n c xs} ho =>
    ho.kept hg (Or.inr fun e => own_apartT ho h.own rfl (by decide) e.symm)
  have hrB := (hr.lt r rfl).1
  refine ⟨?_, fun j hj => ?_, fun j j' hj hj' e => ?_⟩
  · have : rowsD (fun j => if j = i then r else bs j) (fun j => if j = i then c else cp j) N (i + 1) = rowsD bs cp N i ++ [.slice (some ⟨r, 0, none⟩) N c] := by
      unfold rowsD
      rw [List.range_succ, List.map_append]
      congr 1
      · refine List.map_congr_left fun j hj => ?_
        simp only [List.mem_range] at hj
        simp only [if_neg (by omega : ¬ j = i)]
      · simp
    rw [this]
    exact hown
  · by_cases e : j = i
    · subst e
      simp only [if_pos]
      exact keep (Joins.ownsRow_le hr hB)
    · simp only [if_neg e]
      exact keep (h.row j (by omega))
  · show (if j = i then r else bs j) ≠ (if j' = i then r else bs j')
    by_cases e1 : j = i
    · rw [if_pos e1, if_neg (by omega)]
      have := hlt j' (by omega)
      omega
    · rw [if_neg e1]
      by_cases e2 : j' = i
      · rw [if_pos e2]
        have := hlt j (by omega)
        omega
      · rw [if_neg e2]
        exact h.inj j j' (by omega) (by omega) e
end Go.Proofs.YtnedcclmfokdnaaGreat
