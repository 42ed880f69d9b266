import Derived.Test.YtpgepfbdjefmdaaGreatJ25
namespace Go.Proofs.YtpgepfbdjefmdaaGreat
open Go.RowKit
theorem place_at {l : List Rec} (hn : NoTwice l) {i : Nat} {x : Rec} (hx : l[i]? = some x) : place l x.id = i :=
  place_some (fun j y hj hy e => by have := hn j i y x hy hx e; omega) hx rfl
end Go.Proofs.YtpgepfbdjefmdaaGreat
