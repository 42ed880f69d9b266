/- What lies between the first and the last of three marks is at most what lies between the first and the second, and the second and the last; no tie has a lesser Most than Above of its marks, for every input of the statement, with no further condition. -/
import Derived.Test.YtpgepfbdjefmdaaGreatZSRowShaftTriangles
import Derived.Test.YtpgepfbdjefmdaaGreatZNetE
namespace Go.Proofs.YtpgepfbdjefmdaaGreat
theorem ShaftTriangles_holds : Rows.ShaftTrianglesSaid := ShaftTriangles_h
end Go.Proofs.YtpgepfbdjefmdaaGreat
