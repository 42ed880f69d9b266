/- What FireMore compares, as mathematics. No program is named here. -/
import Derived.Test.YtmiglaeabpaofaaJ2
namespace Go.Proofs.Ytmiglaeabpaofaa
structure MorK (f : Fi) (x : Lk) (p : Spt) (id : Int) (R1 R5 : Bnd) : Prop where
  now : endsR f p = R1
  more : wouldE f x p = 0 → R1.lo ≤ (wouldR f x p).lo ∧ (wouldR f x p).hi ≤ R1.hi
  own : endsE f x.at_ = 0 → ∀ y : Lk, y.at_ = x.at_ → y.lo = (endsR f x.at_).lo → y.hi = (endsR f x.at_).hi →
    (wouldE f y p = 0 ∧ (wouldR f y p).lo = R1.lo ∧ (wouldR f y p).hi = R1.hi) ∨ (wouldE f y p ≠ 0 ∧ wouldE f y p ≠ 9)
  fire : fireI f = 0
  way : withoutR f [id] = withF f (butL f.ls [id])
  less : endsE (withF f (butL f.ls [id])) p = 0
  then_ : endsR (withF f (butL f.ls [id])) p = R5
  rests : (restsR f p).contains id = !(R5.lo == R1.lo && R5.hi == R1.hi)
theorem mor_math {f : Fi} {x : Lk} {p : Spt} {id : Int} (h : endsE f p = 0) : ∃ R1 R5, MorK f x p id R1 R5 := by
  obtain ⟨hok, hp, hag⟩ := ends_zero h
  have hbo := but_ok hok [id]
  have hba := but_agree hag [id]
  have hle : endsE (withF f (butL f.ls [id])) p = 0 := zero_ends hbo hp hba
  refine ⟨bndI f f.ls p, bndI (withF f (butL f.ls [id])) (butL f.ls [id]) p, ⟨by unfold endsR; rw [if_pos h], fun hw => ?_, fun hx y hy h1 h2 => ?_, ok_fire hok, by unfold withoutR; rw [if_pos (ok_fire hok)], hle, by unfold endsR; rw [if_pos hle]; rfl, ?_⟩⟩
  · rw [would_zero hw]
    show endLo f f.ls p ≤ max _ _ ∧ min _ _ ≤ endHi f f.ls p
    omega
  · obtain ⟨_, hxs, _⟩ := ends_zero hx
    have e : endsR f x.at_ = bndI f f.ls x.at_ := by unfold endsR; rw [if_pos hx]
    rw [e, ← hy] at h1 h2
    have h1' : y.lo = endLo f f.ls y.at_ := h1
    have h2' : y.hi = endHi f f.ls y.at_ := h2
    have hlh := lo_hi hok.slope hok.look hag y.at_
    have ha := agree_more hag (y := y) (by omega) (by omega) (by omega)
    by_cases hz : wouldE f y p = 0
    · left
      rw [would_zero hz]
      exact ⟨hz, own_lo hok.slope _ _ _ h1', own_hi hok.slope _ _ _ h2'⟩
    · right
      refine ⟨hz, ?_⟩
      rw [would_agree hok hp ha, fire_more (ok_fire hok)]
      split
      · simp
      · split
        · simp
        · split <;> simp
  · have e : restsR f p = restL f f.ls p := by unfold restsR; rw [if_pos h]
    rw [e, rests_mem]
    show _ = !((endLo f (butL f.ls [id]) p == endLo f f.ls p) && (endHi f (butL f.ls [id]) p == endHi f f.ls p))
    rw [but1_eq]
    congr 1
theorem take_has {l : List Int} {j : Nat} {x : Int} (hx : l[j]? = some x) (n : Int) : (l.take (j + 1)).contains n = ((l.take j).contains n || (x == n)) := by
  rw [List.take_add_one, hx]
  rw [Bool.eq_iff_iff, List.contains_iff_mem, List.mem_append, Bool.or_eq_true, List.contains_iff_mem, beq_iff_eq]
  simp only [Option.toList_some, List.mem_singleton]
  exact ⟨fun h => h.imp_right Eq.symm, fun h => h.imp_right Eq.symm⟩
end Go.Proofs.Ytmiglaeabpaofaa
