/- Contracts of the specification's sum of two polynomials. No condition but those that each theorem names. -/
import Derived.Test.YtpkjjcfcpmcdiaaLauD
import Derived.RegionTactic
namespace Go.Proofs.Ytpkjjcfcpmcdiaa
open Go.RowKit

section
variable (r s : Int) (A B : Option Addr) (n ca m cb : Nat) (zs : List Int) (w : World) (hA : Ints w w.heap.size A n zs) (hn : n ≤ 1048576)
include hA hn

end

section
variable (r s : Int) (A B : Option Addr) (n ca m cb : Nat) (zs ys : List Int) (w : World) (hA : Ints w w.heap.size A n zs) (hB : Ints w w.heap.size B m ys) (hn : n ≤ 1048576) (hm : m ≤ 1048576)
include hA hB hn hm

end

end Go.Proofs.Ytpkjjcfcpmcdiaa
