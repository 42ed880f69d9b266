import Derived.Test.YtnedcclmfokdnaaGreatJ25
namespace Go.Proofs.YtnedcclmfokdnaaGreat
open Go.RowKit
theorem place_at {l : List Rec} (hn : NoTwice l) {i : Nat} {x : Rec} (hx : l[i]? = some x) : place l x.id = i :=
  place_some (fun j y hj hy e => by have := hn j i y x hy hx e; omega) hx rfl
theorem place_other {k : Kl} (h : Right k) {x : Rec} (hx : x ∈ k.ds) : place k.ls x.id = -1 :=
  place_none fun _ y hy => h.parts.2.2.2 y (List.mem_of_getElem? hy) x hx
theorem weight_load {k : Kl} (hc : checkI k = 0) {i : Nat} {x : Rec} (hx : k.ls[i]? = some x) : weightE k x.id = betw k i ((i : Int) + 1) := by
  have hR := right_of_check hc
  have hp := place_at hR.noL hx
  have hr : runI k.ls 0 x.id x.id = (((i : Int), (i : Int) + 1), 0) := by
    unfold runI
    rw [hp, if_neg (by omega), if_neg (by omega), markB_zero, markB_zero]
  unfold weightE runE runM
  rw [if_neg (by simp [hc]), hr]
  simp
theorem weight_draw {k : Kl} (hc : checkI k = 0) {j : Nat} {x : Rec} (hx : k.ds[j]? = some x) : weightE k x.id = betw k (markI k j) (markI k ((j : Int) + 1)) := by
  have hR := right_of_check hc
  have hp := place_at hR.noD hx
  have ho := place_other hR (List.mem_of_getElem? hx)
  have hr : runI k.ls 0 x.id x.id = ((0, 0), 5) := by
    unfold runI
    rw [ho, if_pos (by omega)]
  have hr2 : runI k.ds k.ls.length x.id x.id = ((markI k j, markI k ((j : Int) + 1)), 0) := by
    unfold runI
    rw [hp, if_neg (by omega), if_neg (by omega), markB_mark, markB_mark]
  unfold weightE runE runM
  rw [if_neg (by simp [hc]), hr, if_pos rfl, hr2]
  simp
theorem betw_ok {k : Kl} (hc : Can (tiesL k)) (a b : Int) : betw k a b = ((-(dst (tiesL k) b a), dst (tiesL k) a b), 0) := by unfold betw; rw [if_pos (canB_true.2 hc)]
theorem betw_no {k : Kl} (hc : ¬ Can (tiesL k)) (a b : Int) : betw k a b = ((0, 0), 9) := by unfold betw; rw [if_neg (fun h => hc (canB_true.1 h))]
end Go.Proofs.YtnedcclmfokdnaaGreat
