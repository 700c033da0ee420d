/- The program's composition, inverse and index, by its map. No condition but those that each theorem names. -/
import Derived.Test.YtajbahfbldmckaaDoorPfN
namespace Go.Proofs.YtajbahfbldmckaaDoor
open Go.RowKit

set_option maxRecDepth 100000 in
/-- What a look-up in the map gives. -/
theorem MapAt.look {W : World} {b : Nat} (h : MapAt W b) {x0 x1 x2 x3 : Nat} (b0 : x0 < 4) (b1 : x1 < 4) (b2 : x2 < 4) (b3 : x3 < 4) :
    (Instr.lookup 110 (.map (some b)) (.agg #[.int .u8 (x0 : Int), .int .u8 (x1 : Int), .int .u8 (x2 : Int), .int .u8 (x3 : Int)]) false).run Tryd.prog W = .ok (.int .i64 (if P4.ix [(x0 : Int), (x1 : Int), (x2 : Int), (x3 : Int)] < 24 then (P4.ix [(x0 : Int), (x1 : Int), (x2 : Int), (x3 : Int)] : Int) else 0)) W := by
  obtain ⟨c, hrun, hat, _⟩ := World.ownsMap.lookup_int h lawK Tryd.underlying110 Tryd.underlying2 (zeroI W) (keyL_of b0 b1 b2 b3)
  have hl := look_all x0 b0 x1 b1 x2 b2 x3 b3
  rw [hat] at hl
  have e := Option.some.inj hl
  rw [← e]
  exact hrun

end Go.Proofs.YtajbahfbldmckaaDoor
