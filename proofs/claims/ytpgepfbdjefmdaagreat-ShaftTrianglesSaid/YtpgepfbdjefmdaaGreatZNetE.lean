import Derived.Test.YtpgepfbdjefmdaaGreatJ2
namespace Go.Proofs.YtpgepfbdjefmdaaGreat
structure TabI (l done : List Tie) (D : Int → Int → Int) : Prop extends TabR l D where
  self : ∀ i, D i i ≤ 0
  tie : ∀ t ∈ done, D t.frm t.too ≤ t.most
end Go.Proofs.YtpgepfbdjefmdaaGreat
