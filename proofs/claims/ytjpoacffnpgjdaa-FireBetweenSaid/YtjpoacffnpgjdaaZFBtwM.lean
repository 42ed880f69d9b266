/- What FireBetween compares, as mathematics. No program is named here. -/
import Derived.Test.YtjpoacffnpgjdaaJ2
namespace Go.Proofs.Ytjpoacffnpgjdaa
theorem list_zero {f : Fi} {l : List Spt} (h : listE f l = 0) : FireOk f ∧ agreeB f f.ls = true ∧ l.length ≤ 24 ∧ (∀ p ∈ l, spotB p = true) ∧ spotsI l = 0 := by
  obtain ⟨h1, h2, h3⟩ := known_zero h
  rw [first1] at h2
  obtain ⟨a, b⟩ := spotsI_iff.1 h2
  exact ⟨fire_ok h1, h3, a, b, h2⟩
theorem btw_told {l : List Spt} {g : Spt → Int} (hg : ∀ p, 0 ≤ g p ∧ g p ≤ 1500) : toldE l (l.map g) = 0 := by
  unfold toldE
  rw [if_neg (by simp), if_pos]
  simp only [List.all_eq_true, List.mem_map]
  rintro n ⟨p, _, rfl⟩
  exact heat_iff.2 (hg p)
theorem btw_fits {f : Fi} {l : List Spt} {g : Spt → Int} (h : listE f l = 0) (hg : ∀ p, 0 ≤ g p ∧ g p ≤ 1500) (hb : fitsB f f.ls (l.zip (l.map g)) = true) : fitsE f l (l.map g) = 0 ∧ fitsR f l (l.map g) = true := by
  obtain ⟨hok, ha, _, _, hs⟩ := list_zero h
  have h0 : fitsE f l (l.map g) = 0 := known_ok (ok_fire hok) (first2.2 ⟨hs, btw_told hg⟩) ha
  exact ⟨h0, by unfold fitsR; rw [if_pos h0]; exact hb⟩
theorem btw_low {f : Fi} {l : List Spt} (h : listE f l = 0) : fitsE f l (l.map (endLo f f.ls)) = 0 ∧ fitsR f l (l.map (endLo f f.ls)) = true := by
  obtain ⟨hok, ha, _, _, _⟩ := list_zero h
  exact btw_fits h (lo_range hok.slope hok.look) (fits_low hok.slope hok.look ha l)
theorem btw_high {f : Fi} {l : List Spt} (h : listE f l = 0) : fitsE f l (l.map (endHi f f.ls)) = 0 ∧ fitsR f l (l.map (endHi f f.ls)) = true := by
  obtain ⟨hok, ha, _, _, _⟩ := list_zero h
  exact btw_fits h (hi_range hok.slope hok.look) (fits_high hok.slope hok.look ha l)
theorem shows_low {f : Fi} (h : FireOk f) (p : Spt) : (showsB f f.ls p (lowId f f.ls p) (endLo f f.ls p) false || (lowId f f.ls p == 0 && endLo f f.ls p == 0)) = true := by
  rcases least_spec (fun x => lowV f p x == endLo f f.ls p) f.ls (fun x hx => (look_iff.1 (h.look x hx)).1.1) with ⟨e, hn⟩ | ⟨x, hx, hp, e, _⟩
  · have e1 : lowId f f.ls p = 0 := e
    rcases lo_is f f.ls p with e2 | ⟨y, hy, e2⟩
    · rw [e1, e2]; simp
    · have := hn y hy; rw [e2] at this; simp at this
  · have e1 : lowId f f.ls p = x.id := e
    have hp' : (lowV f p x == endLo f f.ls p) = true := hp
    unfold showsB
    rw [e1, find_id h.ids hx]
    simp [hp']
theorem shows_high {f : Fi} (h : FireOk f) (p : Spt) : (showsB f f.ls p (highId f f.ls p) (endHi f f.ls p) true || (highId f f.ls p == 0 && endHi f f.ls p == 1500)) = true := by
  rcases least_spec (fun x => highV f p x == endHi f f.ls p) f.ls (fun x hx => (look_iff.1 (h.look x hx)).1.1) with ⟨e, hn⟩ | ⟨x, hx, hp, e, _⟩
  · have e1 : highId f f.ls p = 0 := e
    rcases hi_is f f.ls p with e2 | ⟨y, hy, e2⟩
    · rw [e1, e2]; simp
    · have := hn y hy; rw [e2] at this; simp at this
  · have e1 : highId f f.ls p = x.id := e
    have hp' : (highV f p x == endHi f f.ls p) = true := hp
    unfold showsB
    rw [e1, find_id h.ids hx]
    simp [hp']
structure BtwP (f : Fi) (p : Spt) : Prop where
  ends : endsE f p = 0
  bnd : endsR f p = bndI f f.ls p
  chk : chkEndsI f p (bndI f f.ls p) = 0
  lohi : endLo f f.ls p ≤ endHi f f.ls p
  lo : 0 ≤ endLo f f.ls p ∧ endLo f f.ls p ≤ 1500
  hi : 0 ≤ endHi f f.ls p ∧ endHi f f.ls p ≤ 1500
theorem btw_at {f : Fi} {l : List Spt} (h : listE f l = 0) {p : Spt} (hp : p ∈ l) : BtwP f p := by
  obtain ⟨hok, ha, _, hs, _⟩ := list_zero h
  have h0 := zero_ends hok (hs p hp) ha
  refine ⟨h0, by unfold endsR; rw [if_pos h0], ?_, lo_hi hok.slope hok.look ha p, lo_range hok.slope hok.look p, hi_range hok.slope hok.look p⟩
  unfold chkEndsI
  rw [if_neg (by simp [h0]), if_pos]
  unfold proofB bndI
  simp only [decide_true, Bool.true_and, Bool.and_eq_true]
  exact ⟨shows_low hok p, shows_high hok p⟩
theorem btw_far {f : Fi} {l : List Spt} (h : listE f l = 0) {p q : Spt} (hp : p ∈ l) (hq : q ∈ l) : farE f q p = 0 ∧ farR f q p = farI f q p ∧ (0 ≤ farI f q p ∧ farI f q p ≤ 10000000) ∧ endLo f f.ls p ≤ endLo f f.ls q + farI f q p ∧ endHi f f.ls p ≤ endHi f f.ls q + farI f q p := by
  obtain ⟨hok, ha, _, hs, _⟩ := list_zero h
  have h0 : farE f q p = 0 := by unfold farE; rw [if_neg (by simp [ok_fire hok])]; exact spot2E_iff.2 ⟨hs q hq, hs p hp⟩
  exact ⟨h0, by unfold farR; rw [if_pos h0], far_bounds hok.slope (hs q hq) (hs p hp), lo_tri hok.slope f.ls q p, hi_tri hok.slope f.ls q p⟩
end Go.Proofs.Ytjpoacffnpgjdaa
