/-
  CONTRACTS of the laws' helpers toIntS and eqIntS.
-/
import Derived.Test.YtjahmlaocgcjpaaGreatDoorSl
import Derived.WalkKit
import Derived.WalkLawsBesides
import Derived.BigQuiet
import Derived.Deep.QuietTactic
import Derived.Outline
namespace Go.Proofs.YtjahmlaocgcjpaaGreatDoor
open Go Go.RowKit

theorem infoInt : (Tryz.prog.info? 3).map (fun i => (i.zero, i.size, i.bytes)) = some (some (Value.int .i64 0), 1, 8) := by kernel_rfl


end Go.Proofs.YtjahmlaocgcjpaaGreatDoor
