
/- An argument of the laws' own term type, opened: the term that it is, and that it lies in memory. -/
import Derived.Test.YtgopaladlbgfgaaDoorRows
import Derived.Test.YtgopaladlbgfgaaDoorTm
import Derived.OpenShut
import Derived.ShutString
import Derived.ChangeOld
namespace Go.Proofs.YtgopaladlbgfgaaDoor
open Go.ChangeShapes Go.WideShapes Go.ChangeAt Go.RowKit Go.Deep

set_option maxRecDepth 100000 in
theorem own : ownKnob Tryd.prog.godebug = none := by kernel_rfl
set_option maxRecDepth 100000 in
theorem laidOut : laidOutB Tryd.prog = true := by kernel_rfl

end Go.Proofs.YtgopaladlbgfgaaDoor
