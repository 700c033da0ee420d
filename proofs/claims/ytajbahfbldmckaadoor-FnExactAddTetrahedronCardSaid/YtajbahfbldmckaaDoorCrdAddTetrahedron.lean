/- The closed facts of the card of FnExactAddTetrahedron. No condition. -/
import Derived.Test.YtajbahfbldmckaaDoorLiftW
import Derived.Test.YtajbahfbldmckaaDoorCards
import Derived.SevenTiedAt
namespace Go.Proofs.YtajbahfbldmckaaDoor
open Go Go.ChangeShapes Go.WideShapes Go.ChangeAt Go.RowKit

set_option maxRecDepth 100000 in
theorem exactAddTetrahedron_wf : Rows.fnExactAddTetrahedronRow.wfByText (OpenSpec.ofChange Rows.fnExactAddTetrahedronSpec) = true := by kernel_rfl
set_option maxRecDepth 100000 in
theorem exactAddTetrahedron_main : Tryd.pinned.checked.prog.mainIs = some (Rows.fnExactAddTetrahedronCard.stood.harness.1, Rows.fnExactAddTetrahedronCard.stood.harness.2.toList) := by kernel_rfl
set_option maxRecDepth 100000 in
theorem exactAddTetrahedron_looks : Rows.fnExactAddTetrahedronCard.stood.looks = Tryd.pinned.checked.prog.looks [] := by kernel_rfl
set_option maxRecDepth 100000 in
theorem exactAddTetrahedron_goes : false = Rows.fnExactAddTetrahedronRow.goesBy Tryd.pinned.checked.prog := by kernel_rfl
set_option maxRecDepth 100000 in
theorem exactAddTetrahedron_named : Tryd.prog.funcNamed "loop.example/g00870/laws.FnExactAddTetrahedron" = some 3 := by kernel_rfl

end Go.Proofs.YtajbahfbldmckaaDoor
