/- Texts joined: GenSort. -/
import Derived.Test.YtjpoacffnpgjdaaGreatJ4
import Derived.Test.YtjpoacffnpgjdaaGreatJ2
import Derived.Shelf.SlSortCmp.WholeK
/- A row of structs of the call's own, sorted by the library: what it holds then. No program is named here. -/
namespace Go.Proofs.YtjpoacffnpgjdaaGreat
open Go Go.RowKit Go.Shelf Go.Lib Go.Sort

section
variable {α : Type} [Inhabited α] {enc : α → List Value} {k : Nat} {w : World} {g n : Nat} {os : Array Obj}
theorem grownBy_sortedK (d : Array α) : w.grownBy (grow (putRowK enc k (Sort.ahead w n) g 0 d) os) (some g) := by
  refine ⟨rfl, rfl, rfl, by simp [putRowK], fun j hj hne => ?_⟩
  unfold putRowK
  rw [heap_grow_old _ _ (by simpa using hj)]
  have : g ≠ j := fun e => hne (by rw [e])
  simp [putRow, mapBlock, Sort.ahead, Array.getElem?_modify, this]
theorem holdsK_of_own {base cap : Nat} {e : TypeId} {l : List α} (hk : ∀ x, (enc x).length = k) (h : w.ownsRow base e k (.slice (some ⟨g, 0, none⟩) l.length cap) l.length (l.flatMap enc)) : HoldsK enc k w g 0 l.toArray := by
  intro t ht
  rw [size_flatK] at ht
  have ht' : t < l.length * k := by simpa using ht
  have hk0 : 0 < k := by rcases Nat.eq_zero_or_pos k with h0 | h0; · subst h0; simp at ht'
                         · exact h0
  have hi : t / k < l.length := (Nat.div_lt_iff_lt_mul hk0).2 ht'
  have hm : t % k < k := Nat.mod_lt _ hk0
  have hx : l[t / k]? = some l[t / k] := List.getElem?_eq_getElem hi
  have hu : (enc l[t / k])[t % k]? = some (enc l[t / k])[t % k]! := by
    rw [List.getElem?_eq_getElem (by rw [hk]; exact hm), getElem!_pos]
  have hc := h.cells rfl t _ (by have := flat_at hk l _ _ _ _ hx hu; rwa [Nat.mul_comm, Nat.div_add_mod] at this)
  rw [get_flatK _ _ _ _ (by simpa using ht')]
  have e2 : l.toArray[t / k]! = l[t / k] := by simp [hi]
  rw [e2]
  have ea : (⟨g, 0, none⟩ : Addr).add t = ⟨g, t, none⟩ := by
    unfold Addr.add; split
    · rename_i e; rw [e]
    · simp
  rw [ea] at hc
  refine ⟨by rw [Nat.zero_add]; exact hc, ?_⟩
  rcases h.2 with ⟨h0, _⟩ | ⟨g', cap', cur, hv, _, hh, _⟩
  · cases h0
  · cases hv; simp [World.frozen?, hh]
end
theorem lt_ids (x y : Lk) : ltOf (fun x y : Lk => Lib.compareInt x.id y.id) x y = decide (x.id < y.id) := by
  unfold ltOf Lib.compareInt
  by_cases h1 : x.id < y.id
  · simp [h1]
  · by_cases h2 : y.id < x.id <;> simp [h1, h2]
theorem swo_ids : SWO (ltOf fun x y : Lk => Lib.compareInt x.id y.id) where
  irrefl x := by rw [lt_ids]; simp
  trans x y z h1 h2 := by rw [lt_ids] at *; simp at *; omega
  ntrans x y z h1 h2 := by rw [lt_ids] at *; simp at *; omega
theorem sorted_list {d d' : Array Lk} (hp : PermIn 0 d.size d d') (hs : SortedIn (ltOf fun x y : Lk => Lib.compareInt x.id y.id) 0 d.size d') (hd : d.toList.Pairwise (fun a b => a.id ≠ b.id)) : Srt d'.toList d.toList := by
  obtain ⟨h1, _, h3⟩ := hp
  have e1 : d'.extract 0 d.size = d' := by rw [← h1]; simp
  have e2 : d.extract 0 d.size = d := by simp
  rw [e1, e2] at h3
  refine ⟨h3, ?_⟩
  have hn : d'.toList.Pairwise (fun a b => a.id ≠ b.id) := h3.symm.pairwise hd (fun h => Ne.symm h)
  rw [List.pairwise_iff_getElem] at hn ⊢
  intro i j hi hj hij
  have a := hn i j hi hj hij
  have b := hs i j (by omega) hij (by rw [← h1]; simpa using hj)
  rw [lt_ids, getElem!_pos d' j (by simpa using hj), getElem!_pos d' i (by simpa using hi)] at b
  simp only [Array.getElem_toList] at a ⊢
  simp at b
  omega
end Go.Proofs.YtjpoacffnpgjdaaGreat
