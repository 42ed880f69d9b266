import Derived.Test.YtnedcclmfokdnaaGreatJ10
namespace Go.Proofs.YtnedcclmfokdnaaGreat
open Go Go.RowKit
section
variable {P : Program} {ops : Array Oper} {w0 : World} {Q : Exit → Act → World → Prop} {S : Nat → Bool}
def planTB (ops : Array Oper) (ps : List Stp) (cs : List Nat) : Bool :=
  Region.noSelect ops && (ps.all fun p => p.is.all fun i => decide (i < ops.size)) && (cs.all fun i => decide (i < ops.size)) && decide (lenP ps + cs.length = ops.size) &&
    (ps.all fun p => p.is.all fun i => !cs.contains i) && (ps.all fun p => p.is.all fun i => cs.all fun j => waitsT ops i ops.size j) && planB ops cs ps (Array.replicate ops.size false)
end
end Go.Proofs.YtnedcclmfokdnaaGreat
