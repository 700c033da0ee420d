/- The product of two matrices: the specification's functions below it. No condition but those that each theorem names. -/
import Derived.Test.YtpkjjcfcpmcdiaaMatK
namespace Go.Proofs.Ytpkjjcfcpmcdiaa
open Go.RowKit

def TimesSays (x y : Int) (w : World) (e : Ending) (w' : World) : Prop :=
  (mg (x * y) ≤ 1000000000000 → e = .returned (.tuple #[.int .i64 (x * y), .bool true])) ∧ (¬ mg (x * y) ≤ 1000000000000 → e = .returned (.tuple #[.int .i64 0, .bool false])) ∧ w = w'
end Go.Proofs.Ytpkjjcfcpmcdiaa
