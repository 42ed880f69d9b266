/- Texts joined: FProgE. -/
import Derived.Test.YtjpoacffnpgjdaaGreatJ1
import Derived.Test.YtjpoacffnpgjdaaGreatJ5
import Derived.Shelf.SlSortCmp.NoneTotal
import Derived.Test.YtjpoacffnpgjdaaGreatJ12
/- The looks of a fire in the order of their IDs: sightOf, by the program. -/
namespace Go.Proofs.YtjpoacffnpgjdaaGreat
open Go Go.RowKit Go.Shelf Go.Lib Go.Sort

set_option maxHeartbeats 1000000 in
theorem byId_c (x y : Lk) (W : World) : Calls Tryz.prog 111 #[lkV x, lkV y] W fun e w' => e = .returned (.int .i64 (Lib.compareInt x.id y.id)) ∧ ∃ q os', w' = grow (W.drewN q) os' := by
  have hcon := fun W' => AnyG.cmp_Compare_int Tryz.cmpInt x.id y.id W'
  change ∀ W', Calls Tryz.prog 112 _ _ _ at hcon
  generalize Lib.compareInt x.id y.id = r at hcon ⊢
  unfold lkV
  go_enter Tryz.func111, Tryz.ntmps111
  go_wp2_with (go_at_call 112; refine (hcon _).mono ?_; rintro e w' ⟨rfl, rfl⟩)
  go_ret
  exact ⟨rfl, 0, _, by rw [alloc_eq_grow, alloc_eq_grow, grow_grow]; rfl⟩
theorem byId_lays (blk off size : Nat) (w : World) : CmpLays Tryz.prog 111 #[] lkC 5 (fun x y => Lib.compareInt x.id y.id) blk off size w :=
  fun _ _ _ _ x y => byId_c x y _
set_option maxHeartbeats 1000000 in
/-- A row of looks of the call's own is sorted by the IDs. -/
theorem sortLk_c (base g cap : Nat) (l : List Lk) (w : World) (h : w.ownsRow base 90 5 (.slice (some ⟨g, 0, none⟩) l.length cap) l.length (l.flatMap lkC)) (hd : l.Pairwise (fun a b => a.id ≠ b.id)) (hl : l.length ≤ 5000) :
    Calls Tryz.prog 133 #[.slice (some ⟨g, 0, none⟩) l.length cap, .func (.func 111) #[] #[]] w fun e w' => e = .returned (.tuple #[]) ∧
      ∃ S, Srt S l ∧ S.length = l.length ∧ (∀ i x, S[i]? = some x → ∀ j u, (lkC x)[j]? = some u → w'.cell? ⟨g, i * 5 + j, none⟩ = some u) ∧ w.grownBy w' (some g) := by
  have eg : ∀ args w, (callFunc 111 args).run Tryz.prog w = .ok (.enter 111 args) w := enters_of Tryz.func111 (by kernel_rfl) rfl
  have hH := holdsK_of_own lkC_len h
  have hblk : g < w.heap.size := (h.lt g rfl).2
  have hcon := AnyQ.slices_SortFunc Tryz.sortLk 5 Tryz.isAgg90 Tryz.sizeOf90 lkC lkC_len (fun x v hv => by simp [lkC] at hv; rcases hv with rfl | rfl | rfl | rfl | rfl <;> rfl) (fun x y => Lib.compareInt x.id y.id) swo_ids 111 #[] g 0 cap l.toArray w eg (byId_lays g 0 _ w) hH hblk (by simp; omega)
  have e1 : l.toArray.size = l.length := by simp
  rw [e1] at hcon
  refine hcon.mono ?_
  rintro e w' ⟨rfl, d', n, os, hp, hs, rfl⟩
  have hS := sorted_list (d := l.toArray) (by rw [e1]; exact hp) (by rw [e1]; exact hs) (by simpa using hd)
  have hsz : d'.size = l.length := by rw [← e1]; exact hp.1
  refine ⟨rfl, d'.toList, by simpa using hS, by simpa using hsz, fun i x hx j u hu => ?_, grownBy_sortedK d'⟩
  have hi : i < d'.size := by simpa using (List.getElem?_eq_some_iff.1 hx).1
  have hj : j < 5 := by have := (List.getElem?_eq_some_iff.1 hu).1; simpa [lkC] using this
  have hh : HoldsK lkC 5 (grow (putRowK lkC 5 (Sort.ahead w n) g 0 d') os) g 0 d' :=
    holdsK_grow lkC 5 _ os g 0 d' (by simp [putRowK]; exact hblk) (holdsK_putRowK lkC 5 (Sort.ahead w n) g 0 l.toArray d' hH (by simp [hsz]))
  have := (hh.cell hi hj).1
  rw [Nat.zero_add] at this
  unfold sortWorldK
  rw [this]
  have ex : d'[i]! = x := by
    rw [getElem!_pos d' i hi]
    have := (List.getElem?_eq_some_iff.1 hx).2
    simpa using this
  rw [ex]
  rw [← hu, List.getElem?_eq_getElem (by rw [lkC_len]; exact hj), getElem!_pos]
theorem collectOwn_c (things : Value) (n₀ B : Nat) (xs : List Lk) (w : World) (hG : Gives Tryz.prog n₀ B [] things encLk xs w) (hn : n₀ ≤ w.heap.size) (hlen : xs.length ≤ 5000) :
    Calls Tryz.prog 132 #[things] w fun e w' => ∃ v, e = .returned v ∧ w'.ownsRow w.heap.size 90 5 v xs.length (xs.flatMap lkC) ∧ Below w.heap.size w w' := by
  go_enter Tryz.func132, Tryz.ntmps132
  go_wp2_with fail
  refine (appendLk_c things n₀ B xs w hG hn hlen).mono ?_
  rintro e w1 ⟨v, rfl, hv, hb1⟩
  go_wp2_with fail
  go_ret
  exact ⟨v, rfl, hv, hb1⟩
theorem sortedLk_c (things : Value) (n₀ B : Nat) (l : List Lk) (w : World) (hG : Gives Tryz.prog n₀ B [] things encLk l w) (hn : n₀ ≤ w.heap.size) (hlen : l.length ≤ 5000) (hd : l.Pairwise (fun a b => a.id ≠ b.id)) :
    Calls Tryz.prog 109 #[things, .func (.func 111) #[] #[]] w fun e w' => ∃ v S, e = .returned v ∧ Srt S l ∧ Lks w' w'.heap.size v S ∧ (∀ k, v.ownBlock = some k → w.heap.size ≤ k) ∧ Below w.heap.size w w' := by
  have HC := collectOwn_c things n₀ B l w hG hn hlen
  obtain ⟨gf, lb, rfl, -⟩ : ∃ gf lb, things = .func (.func gf) #[] lb ∧ True := by obtain ⟨gf, lb, h, _⟩ := hG; exact ⟨gf, lb, h, trivial⟩
  clear hG
  go_enter Tryz.func109, Tryz.ntmps109
  go_wp2_with fail
  refine HC.mono ?_
  rintro e w1 ⟨v, rfl, hv, hb1⟩
  rcases hv.2 with ⟨rfl, h0⟩ | ⟨g, cap, cur, rfl, hg, hh, hcap, hm, hsz, htk⟩
  · have hs := AnyF.slices_SortFunc_none Tryz.sortLk none 0 (.func (.func 111) #[] #[]) w1
    change Calls Tryz.prog 133 _ _ _ at hs
    go_wp2_with fail
    refine hs.mono ?_
    rintro e w' ⟨rfl, rfl⟩
    go_wp2_with fail
    go_ret
    have hl0 : l = [] := List.length_eq_zero_iff.1 h0
    exact ⟨_, [], rfl, by rw [hl0]; exact ⟨.nil, .nil⟩, Sl.nil_, (fun k h => by simp [Value.ownBlock] at h), hb1⟩
  · clear hh htk hsz
    have hs := sortLk_c w.heap.size g cap l w1 hv hd hlen
    go_wp2_with fail
    refine hs.mono ?_
    rintro e w' ⟨rfl, S, hS, hSl, hc, hgr⟩
    have hb2 : Below w.heap.size w w' := below_own hb1 hb1.size hv (by simpa [Value.ownBlock] using hgr)
    have hzg : g < w'.heap.size := Nat.lt_of_lt_of_le (hv.lt g rfl).2 hgr.size
    have hK : Lks w' w'.heap.size (.slice (some ⟨g, 0, none⟩) l.length cap) S := ⟨_, _, by rw [hSl], by omega, by omega, fun _ => ⟨g, 0, rfl, hzg, fun i x hx j u hu => by rw [Nat.zero_add]; exact hc i x hx j u hu⟩⟩
    clear hgr hc hv hs hb1
    go_wp2_with fail
    go_ret
    exact ⟨_, S, rfl, hS, hK, (fun k h => by have h' : some g = some k := h; cases h'; exact hg), hb2⟩
end Go.Proofs.YtjpoacffnpgjdaaGreat
