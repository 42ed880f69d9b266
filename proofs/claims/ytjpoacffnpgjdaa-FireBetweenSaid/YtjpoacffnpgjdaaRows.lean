/-
  No cell of these rows narrows 'for every input' (looked for: loops, veiled, ifaces, maps, wideKeys, modest, calm, conditions, laid).
  DERIVED. THE GIVEN ROWS OF THIS SEAT. 6 by the template 'for every input the law returns true; each argument reads behind the call as it read before'; 0 by the template 'total and deterministic' (their statements: YtjpoacffnpgjdaaTotals.lean).
  GIVEN WITH THE SEED: the statements are not yours to turn. If you find one false, say at which input.
  Laid BY PROGRAM, IN A SANDBOX (cutbox-rows.mjs): the forced cells as the released guide's own fill.sh prints them over the translation 89f846ceccdbd32a… (all of the seat's roots in one cut). By AI agents, Wed Nov 11 2026. No macro, syntax, notation, axiom, sorry.
-/
import Derived.Test.YtjpoacffnpgjdaaChecked
import GoSem.Claim
import GoSem.ClaimJoined
import GoSem.ClaimMapViews
import Derived.JoinedTies
import Derived.KernelRfl
namespace Go.Proofs.Ytjpoacffnpgjdaa
/- THE CELL 'sum', in the pinned program and in every row, IS THE sha256 OF THE DUMP (.gsa) THAT YtjpoacffnpgjdaaProg.lean LOADS. Nothing in Lean hashes anything: it is a label: what it is worth is what the hold of that sum in a sandbox is worth. -/
noncomputable def Try.pinned : Pinned := { name := "ytjpoacffnpgjdaa", sum := "89f846ceccdbd32a8734d1383fa6229498fa9b3339c180ada7082225fee5ec99", checked := Try.checked }
namespace Rows
def none {H : Type} : Left H := { results := [], args := [] }

/-- 'calxlaw02.FireBetween': WHATEVER THE INPUT: true; the input reads as it did. -/
def fireBetweenSpec : ChangeSpec := { name := "fireBetween", fn := fun _ => fun
  | [d1, d2, d3] => { results := [.lit (.bool true)], args := [d1, d2, d3] }
  | _ => none }
def fireBetweenRow : OpenClaim := { program := "ytjpoacffnpgjdaa", sum := "89f846ceccdbd32a8734d1383fa6229498fa9b3339c180ada7082225fee5ec99", func := "calx/calxlaw02.FireBetween", spec := "fireBetween", unfollowed := true, recurses := true, plainKeys := false, apart := false }
def FireBetweenSaid : Prop := fireBetweenRow.holds Try.pinned (OpenSpec.ofChange fireBetweenSpec)

/-- ITS FALSE NEIGHBOUR: 'it returns false'. Refute it at one input. -/
def fireBetweenWrong : ChangeSpec := { name := "fireBetween", fn := fun _ => fun
  | [d1, d2, d3] => { results := [.lit (.bool false)], args := [d1, d2, d3] }
  | _ => none }
def FireBetweenWrongFalsely : Prop := fireBetweenRow.holds Try.pinned (OpenSpec.ofChange fireBetweenWrong)

/-- 'calxlaw02.FireContradicts': WHATEVER THE INPUT: true; the input reads as it did. -/
def fireContradictsSpec : ChangeSpec := { name := "fireContradicts", fn := fun _ => fun
  | [d1, d2, d3, d4] => { results := [.lit (.bool true)], args := [d1, d2, d3, d4] }
  | _ => none }
def fireContradictsRow : OpenClaim := { program := "ytjpoacffnpgjdaa", sum := "89f846ceccdbd32a8734d1383fa6229498fa9b3339c180ada7082225fee5ec99", func := "calx/calxlaw02.FireContradicts", spec := "fireContradicts", unfollowed := true, recurses := true, plainKeys := false, apart := false }
def FireContradictsSaid : Prop := fireContradictsRow.holds Try.pinned (OpenSpec.ofChange fireContradictsSpec)

/-- ITS FALSE NEIGHBOUR: 'it returns false'. Refute it at one input. -/
def fireContradictsWrong : ChangeSpec := { name := "fireContradicts", fn := fun _ => fun
  | [d1, d2, d3, d4] => { results := [.lit (.bool false)], args := [d1, d2, d3, d4] }
  | _ => none }
def FireContradictsWrongFalsely : Prop := fireContradictsRow.holds Try.pinned (OpenSpec.ofChange fireContradictsWrong)

/-- 'calxlaw02.FireMore': WHATEVER THE INPUT: true; the input reads as it did. -/
def fireMoreSpec : ChangeSpec := { name := "fireMore", fn := fun _ => fun
  | [d1, d2, d3, d4] => { results := [.lit (.bool true)], args := [d1, d2, d3, d4] }
  | _ => none }
def fireMoreRow : OpenClaim := { program := "ytjpoacffnpgjdaa", sum := "89f846ceccdbd32a8734d1383fa6229498fa9b3339c180ada7082225fee5ec99", func := "calx/calxlaw02.FireMore", spec := "fireMore", unfollowed := true, recurses := true, plainKeys := false, apart := false }
def FireMoreSaid : Prop := fireMoreRow.holds Try.pinned (OpenSpec.ofChange fireMoreSpec)

/-- ITS FALSE NEIGHBOUR: 'it returns false'. Refute it at one input. -/
def fireMoreWrong : ChangeSpec := { name := "fireMore", fn := fun _ => fun
  | [d1, d2, d3, d4] => { results := [.lit (.bool false)], args := [d1, d2, d3, d4] }
  | _ => none }
def FireMoreWrongFalsely : Prop := fireMoreRow.holds Try.pinned (OpenSpec.ofChange fireMoreWrong)

/-- 'calxlaw02.FireSinks': WHATEVER THE INPUT: true; the input reads as it did. -/
def fireSinksSpec : ChangeSpec := { name := "fireSinks", fn := fun _ => fun
  | [d1, d2, d3, d4, d5] => { results := [.lit (.bool true)], args := [d1, d2, d3, d4, d5] }
  | _ => none }
def fireSinksRow : OpenClaim := { program := "ytjpoacffnpgjdaa", sum := "89f846ceccdbd32a8734d1383fa6229498fa9b3339c180ada7082225fee5ec99", func := "calx/calxlaw02.FireSinks", spec := "fireSinks", unfollowed := true, recurses := true, plainKeys := false, apart := false }
def FireSinksSaid : Prop := fireSinksRow.holds Try.pinned (OpenSpec.ofChange fireSinksSpec)

/-- ITS FALSE NEIGHBOUR: 'it returns false'. Refute it at one input. -/
def fireSinksWrong : ChangeSpec := { name := "fireSinks", fn := fun _ => fun
  | [d1, d2, d3, d4, d5] => { results := [.lit (.bool false)], args := [d1, d2, d3, d4, d5] }
  | _ => none }
def FireSinksWrongFalsely : Prop := fireSinksRow.holds Try.pinned (OpenSpec.ofChange fireSinksWrong)

/-- 'calxlaw02.FireDecides': WHATEVER THE INPUT: true; the input reads as it did. -/
def fireDecidesSpec : ChangeSpec := { name := "fireDecides", fn := fun _ => fun
  | [d1, d2, d3, d4, d5] => { results := [.lit (.bool true)], args := [d1, d2, d3, d4, d5] }
  | _ => none }
def fireDecidesRow : OpenClaim := { program := "ytjpoacffnpgjdaa", sum := "89f846ceccdbd32a8734d1383fa6229498fa9b3339c180ada7082225fee5ec99", func := "calx/calxlaw02.FireDecides", spec := "fireDecides", unfollowed := true, recurses := true, plainKeys := false, apart := false }
def FireDecidesSaid : Prop := fireDecidesRow.holds Try.pinned (OpenSpec.ofChange fireDecidesSpec)

/-- ITS FALSE NEIGHBOUR: 'it returns false'. Refute it at one input. -/
def fireDecidesWrong : ChangeSpec := { name := "fireDecides", fn := fun _ => fun
  | [d1, d2, d3, d4, d5] => { results := [.lit (.bool false)], args := [d1, d2, d3, d4, d5] }
  | _ => none }
def FireDecidesWrongFalsely : Prop := fireDecidesRow.holds Try.pinned (OpenSpec.ofChange fireDecidesWrong)

/-- 'calxlaw02.FireAnyOrder': WHATEVER THE INPUT: true; the input reads as it did. -/
def fireAnyOrderSpec : ChangeSpec := { name := "fireAnyOrder", fn := fun _ => fun
  | [d1, d2, d3] => { results := [.lit (.bool true)], args := [d1, d2, d3] }
  | _ => none }
def fireAnyOrderRow : OpenClaim := { program := "ytjpoacffnpgjdaa", sum := "89f846ceccdbd32a8734d1383fa6229498fa9b3339c180ada7082225fee5ec99", func := "calx/calxlaw02.FireAnyOrder", spec := "fireAnyOrder", unfollowed := true, recurses := true, plainKeys := false, apart := false }
def FireAnyOrderSaid : Prop := fireAnyOrderRow.holds Try.pinned (OpenSpec.ofChange fireAnyOrderSpec)

/-- ITS FALSE NEIGHBOUR: 'it returns false'. Refute it at one input. -/
def fireAnyOrderWrong : ChangeSpec := { name := "fireAnyOrder", fn := fun _ => fun
  | [d1, d2, d3] => { results := [.lit (.bool false)], args := [d1, d2, d3] }
  | _ => none }
def FireAnyOrderWrongFalsely : Prop := fireAnyOrderRow.holds Try.pinned (OpenSpec.ofChange fireAnyOrderWrong)

/- THE SECOND FORM. 'bulk': how many values and letters a reading holds, each counted each time it is reached (what is shared counts as often as it is met; a slice's spare places count too). A statement '..UptoSaid' is the law's where the arguments, and the package variables that the reading takes, are together of bulk at most 1048576: NARROWER than '..Said'. Prove '..Said' where nothing that the law and all that it calls make is longer than what came in: it says more and counts as full. Else prove '..UptoSaid'. A law counts once. -/
mutual
def uptoBulk {H : Type} : DataW H → Nat
  | .lit (.string bytes) => bytes.length + 1
  | .lit _ => 1
  | .nil => 1
  | .ptr d => uptoBulk d + 1
  | .slice elems spare => uptoBulkAll elems + uptoBulkAll spare + 1
  | .agg parts => uptoBulkAll parts + 1
  | .iface _ d => uptoBulk d + 1
  | .map entries => uptoBulkEntries entries + 1
  | .held _ => 1
def uptoBulkAll {H : Type} : List (DataW H) → Nat
  | [] => 0
  | d :: r => uptoBulk d + uptoBulkAll r
def uptoBulkEntries {H : Type} : List (Lit × DataW H) → Nat
  | [] => 0
  | x :: r => uptoBulkEntry x + uptoBulkEntries r
def uptoBulkEntry {H : Type} : Lit × DataW H → Nat
  | (.string bytes, d) => bytes.length + uptoBulk d + 1
  | (_, d) => uptoBulk d + 1
 end
def uptoSmall : (H : Type) → List (DataW H) → Bool := fun _ ds => decide (uptoBulkAll ds ≤ 1048576)
def OpenSpec.upto (s : _root_.Go.ChangeSpec) : _root_.Go.OpenSpec := { _root_.Go.OpenSpec.ofChange s with cond := some uptoSmall }

/-- 'calxlaw02.FireBetween', WHERE WHAT IT READS IS OF BULK AT MOST 1048576: true; the input reads as it did. -/
def fireBetweenUptoRow : OpenClaim := { program := "ytjpoacffnpgjdaa", sum := "89f846ceccdbd32a8734d1383fa6229498fa9b3339c180ada7082225fee5ec99", func := "calx/calxlaw02.FireBetween", spec := "fireBetween", unfollowed := true, recurses := true, plainKeys := false, apart := false, narrowed := true }
def FireBetweenUptoSaid : Prop := fireBetweenUptoRow.holds Try.pinned (OpenSpec.upto fireBetweenSpec)

/-- 'calxlaw02.FireContradicts', WHERE WHAT IT READS IS OF BULK AT MOST 1048576: true; the input reads as it did. -/
def fireContradictsUptoRow : OpenClaim := { program := "ytjpoacffnpgjdaa", sum := "89f846ceccdbd32a8734d1383fa6229498fa9b3339c180ada7082225fee5ec99", func := "calx/calxlaw02.FireContradicts", spec := "fireContradicts", unfollowed := true, recurses := true, plainKeys := false, apart := false, narrowed := true }
def FireContradictsUptoSaid : Prop := fireContradictsUptoRow.holds Try.pinned (OpenSpec.upto fireContradictsSpec)

/-- 'calxlaw02.FireMore', WHERE WHAT IT READS IS OF BULK AT MOST 1048576: true; the input reads as it did. -/
def fireMoreUptoRow : OpenClaim := { program := "ytjpoacffnpgjdaa", sum := "89f846ceccdbd32a8734d1383fa6229498fa9b3339c180ada7082225fee5ec99", func := "calx/calxlaw02.FireMore", spec := "fireMore", unfollowed := true, recurses := true, plainKeys := false, apart := false, narrowed := true }
def FireMoreUptoSaid : Prop := fireMoreUptoRow.holds Try.pinned (OpenSpec.upto fireMoreSpec)

/-- 'calxlaw02.FireSinks', WHERE WHAT IT READS IS OF BULK AT MOST 1048576: true; the input reads as it did. -/
def fireSinksUptoRow : OpenClaim := { program := "ytjpoacffnpgjdaa", sum := "89f846ceccdbd32a8734d1383fa6229498fa9b3339c180ada7082225fee5ec99", func := "calx/calxlaw02.FireSinks", spec := "fireSinks", unfollowed := true, recurses := true, plainKeys := false, apart := false, narrowed := true }
def FireSinksUptoSaid : Prop := fireSinksUptoRow.holds Try.pinned (OpenSpec.upto fireSinksSpec)

/-- 'calxlaw02.FireDecides', WHERE WHAT IT READS IS OF BULK AT MOST 1048576: true; the input reads as it did. -/
def fireDecidesUptoRow : OpenClaim := { program := "ytjpoacffnpgjdaa", sum := "89f846ceccdbd32a8734d1383fa6229498fa9b3339c180ada7082225fee5ec99", func := "calx/calxlaw02.FireDecides", spec := "fireDecides", unfollowed := true, recurses := true, plainKeys := false, apart := false, narrowed := true }
def FireDecidesUptoSaid : Prop := fireDecidesUptoRow.holds Try.pinned (OpenSpec.upto fireDecidesSpec)

/-- 'calxlaw02.FireAnyOrder', WHERE WHAT IT READS IS OF BULK AT MOST 1048576: true; the input reads as it did. -/
def fireAnyOrderUptoRow : OpenClaim := { program := "ytjpoacffnpgjdaa", sum := "89f846ceccdbd32a8734d1383fa6229498fa9b3339c180ada7082225fee5ec99", func := "calx/calxlaw02.FireAnyOrder", spec := "fireAnyOrder", unfollowed := true, recurses := true, plainKeys := false, apart := false, narrowed := true }
def FireAnyOrderUptoSaid : Prop := fireAnyOrderUptoRow.holds Try.pinned (OpenSpec.upto fireAnyOrderSpec)

end Rows
end Go.Proofs.Ytjpoacffnpgjdaa
