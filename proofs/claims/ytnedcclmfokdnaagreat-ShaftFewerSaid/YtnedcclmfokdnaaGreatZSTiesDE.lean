import Derived.Test.YtnedcclmfokdnaaGreatJ26
import Derived.Test.YtnedcclmfokdnaaGreatJ25
import Derived.Laws.StructEq
import Derived.Laws.Cover2
import Derived.Test.YtnedcclmfokdnaaGreatJ27
namespace Go.Proofs.YtnedcclmfokdnaaGreat
open Go Go.RowKit Go.Shelf
attribute [local go_sem] Oper.semAt_some Rel RelAt RelUpon
section
variable (a b c d : Int) (w : World)
end
theorem Tryz.neTie1 (a b c d e f g h : Int) (w : World) : (binOp .neq 99 (.agg #[.int .i64 a, .int .i64 b, .int .i64 c, .int .i64 d]) (.agg #[.int .i64 e, .int .i64 f, .int .i64 g, .int .i64 h])).run Tryz.prog w = .ok (.bool (!((a == e && b == f) && c == g && d == h))) w := (Tryz.eqOf1 (Tryz.inTie1 a b c d w 9998 e f g h)).2
end Go.Proofs.YtnedcclmfokdnaaGreat
