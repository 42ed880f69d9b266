/- What FireDecides compares, as mathematics. No program is named here. -/
import Derived.Test.YtmiglaeabpaofaaJ2
namespace Go.Proofs.Ytmiglaeabpaofaa
def lkAt (id : Int) (q : Spt) (lo hi : Int) : Lk := ⟨id, q.foot, q.hour, lo, hi⟩
theorem lkAt_at (id : Int) (q : Spt) (lo hi : Int) : (lkAt id q lo hi).at_ = q := rfl
theorem dec_would {f : Fi} (h : FireOk f) (ha : agreeB f f.ls = true) (hlen : f.ls.length < 24) {p q : Spt} (hp : spotB p = true) (hq : spotB q = true) {lo hi : Int} (id : Int)
    (h1 : endLo f f.ls q ≤ lo) (h2 : hi ≤ endHi f f.ls q) (h3 : lo ≤ hi) (h5 : lo ≤ endHi f f.ls q) (h6 : endLo f f.ls q ≤ hi) :
    wouldE f (lkAt id q lo hi) p = if ¬ (1 ≤ id ∧ id ≤ 1099511627776) then 1 else if id ∈ f.ls.map Lk.id then 6 else 0 := by
  have hag := agree_more ha (y := lkAt id q lo hi) (by rw [lkAt_at]; exact h5) (by rw [lkAt_at]; exact h6) h3
  rw [would_agree h hp hag, fire_more (ok_fire h), if_neg (by omega)]
  have r1 := (lo_ge f f.ls q).1
  have r2 := (hi_le f f.ls q).1
  have e : lookB (lkAt id q lo hi) = decide (1 ≤ id ∧ id ≤ 1099511627776) := by
    by_cases hi' : 1 ≤ id ∧ id ≤ 1099511627776
    · rw [decide_eq_true hi']
      exact lookB_of hi' hq (by show 0 ≤ lo; omega) (by show hi ≤ 1500; omega) h3
    · rw [decide_eq_false hi', Bool.eq_false_iff]
      intro hh
      exact hi' (look_iff.1 hh).1
  rw [e]
  by_cases hi' : 1 ≤ id ∧ id ≤ 1099511627776
  · rw [decide_eq_true hi', if_neg (by simp), if_neg (show ¬ ¬ (1 ≤ id ∧ id ≤ 1099511627776) from fun h9 => h9 hi')]; rfl
  · rw [decide_eq_false hi', if_pos rfl, if_pos hi']
structure DecK (f : Fi) (q p : Spt) (need id N : Int) : Prop where
  got : neededR f q p need = (N, true)
  lo : endLo f f.ls q ≤ N
  hi : N ≤ endHi f f.ls q
  rng : 0 ≤ N ∧ N ≤ 1500
  way : (wouldE f (lkAt id q N (endHi f f.ls q)) p = 1 ∨ wouldE f (lkAt id q N (endHi f f.ls q)) p = 6) ∨
    (wouldE f (lkAt id q N (endHi f f.ls q)) p = 0 ∧ need ≤ (wouldR f (lkAt id q N (endHi f f.ls q)) p).lo ∧
      (endLo f f.ls q < N → wouldE f (lkAt id q (N - 1) (endHi f f.ls q)) p = 0 ∧ (wouldR f (lkAt id q (N - 1) (endHi f f.ls q)) p).lo < need) ∧
      (decideR f [q] p need = [] ∨ (decideR f [q] p need = [0] ∧ endLo f f.ls q < N ∧ wouldE f (lkAt id q (endLo f f.ls q) (endLo f f.ls q)) p = 0 ∧ (wouldR f (lkAt id q (endLo f f.ls q) (endLo f f.ls q)) p).hi < need)))
theorem dec_math {f : Fi} {q p : Spt} {need : Int} (id : Int) (hlen : f.ls.length < 24) (h : needE f q p need = 0) :
    endsE f q = 0 ∧ endsR f q = bndI f f.ls q ∧ ((neededR f q p need = (0, false) ∧ decideR f [q] p need = []) ∨ ∃ N, DecK f q p need id N) := by
  obtain ⟨hok, hq, hp, _, hag⟩ := need_zero h
  have hz := zero_ends hok hq hag
  refine ⟨hz, by unfold endsR; rw [if_pos hz], ?_⟩
  have hdec := decide_one f q p need h
  have r1 := (lo_ge f f.ls q).1
  have r2 := (hi_le f f.ls q).1
  by_cases h0 : needI f f.ls q p need < 0
  · refine .inl ⟨by unfold neededR; rw [if_pos h, if_pos h0], ?_⟩
    rw [hdec]
    cases hd : decideB f f.ls q p need with
    | false => rfl
    | true => have := (decide_spec hd).1; omega
  · obtain ⟨s1, s2, s3, s4⟩ := needed_spec hok hag h0
    refine .inr ⟨needI f f.ls q p need, ⟨by unfold neededR; rw [if_pos h, if_neg h0], s1, s2, by omega, ?_⟩⟩
    have w1 := dec_would hok hag hlen hp hq (lo := needI f f.ls q p need) (hi := endHi f f.ls q) id s1 (Int.le_refl _) s2 s2 (by omega)
    by_cases hi' : 1 ≤ id ∧ id ≤ 1099511627776
    · rw [if_neg (fun h9 => h9 hi')] at w1
      by_cases hm : id ∈ f.ls.map Lk.id
      · rw [if_pos hm] at w1; exact .inl (.inr w1)
      · rw [if_neg hm] at w1
        refine .inr ⟨w1, ?_, ?_, ?_⟩
        · rw [would_zero w1]; exact s3
        · intro hl
          have w2 := dec_would hok hag hlen hp hq (lo := needI f f.ls q p need - 1) (hi := endHi f f.ls q) id (by omega) (Int.le_refl _) (by omega) (by omega) (by omega)
          rw [if_neg (fun h9 => h9 hi'), if_neg hm] at w2
          refine ⟨w2, ?_⟩
          rw [would_zero w2]; exact s4 hl
        · cases hd : decideB f f.ls q p need with
          | false => left; rw [hdec, hd]; rfl
          | true =>
            right
            obtain ⟨d1, d2⟩ := decide_spec hd
            have w3 := dec_would hok hag hlen hp hq (lo := endLo f f.ls q) (hi := endLo f f.ls q) id (Int.le_refl _) (by omega) (Int.le_refl _) (by omega) (Int.le_refl _)
            rw [if_neg (fun h9 => h9 hi'), if_neg hm] at w3
            refine ⟨by rw [hdec, hd]; rfl, by omega, w3, ?_⟩
            rw [would_zero w3]; exact d2
    · rw [if_pos hi'] at w1; exact .inl (.inl w1)
end Go.Proofs.Ytmiglaeabpaofaa
