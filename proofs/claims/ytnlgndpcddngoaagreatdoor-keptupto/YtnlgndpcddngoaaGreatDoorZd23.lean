import Derived.Test.YtnlgndpcddngoaaGreatDoorZd21
import Derived.Deep.RegionWith
set_option linter.unusedVariables false
set_option linter.unusedSimpArgs false
set_option maxRecDepth 100000
namespace Go.Proofs.YtnlgndpcddngoaaGreatDoor
open Go.RowKit
end Go.Proofs.YtnlgndpcddngoaaGreatDoor
