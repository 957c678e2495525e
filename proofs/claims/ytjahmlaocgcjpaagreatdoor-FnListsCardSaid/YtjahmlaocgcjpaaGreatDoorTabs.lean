/-
  FROM THE ROWS' LISTED VARIABLES TO THE FACTS THAT THE LIBRARY's CONTRACTS ASK.
-/
import Derived.Test.YtjahmlaocgcjpaaGreatDoorRows
import Derived.Test.YtjahmlaocgcjpaaGreatDoorBase
import Derived.Lib.LaidTab
import Derived.Lib.ItoaNum
import Derived.LaidSub
import Derived.Stop.LaidErr
namespace Go.Proofs.YtjahmlaocgcjpaaGreatDoor
open Go Go.RowKit

theorem gPow : Tryz.prog.globalNamed "internal/strconv.uint64pow10" = some 3 := by kernel_rfl
theorem gPowType : (Tryz.prog.globals[3]?).map (·.type) = some 131 := by kernel_rfl

theorem powIs {l : List (String × DataW Unit)} {W : World} (e : l.filter (fun x => x.1 == "internal/strconv.uint64pow10") = [("internal/strconv.uint64pow10", Lib.tabData .u64 Lib.pow10Tab)]) (h : laidMetH Tryz.prog l W) :
    Lib.TabIs Tryz.prog W "internal/strconv.uint64pow10" .u64 Lib.pow10Tab := by
  have h1 := laidMetH.filter (fun x => x.1 == "internal/strconv.uint64pow10") h
  rw [e] at h1
  exact Lib.tabIs_of_head (rest := []) gPow gPowType Tryz.underlying131 Tryz.underlying93 (by kernel_rfl) (by kernel_rfl) h1

theorem powIs_below {W W' : World} (h : Lib.TabIs Tryz.prog W "internal/strconv.uint64pow10" .u64 Lib.pow10Tab) (hb : Below W.heap.size W W') :
    Lib.TabIs Tryz.prog W' "internal/strconv.uint64pow10" .u64 Lib.pow10Tab := by
  have hc := h.cell gPow 0 (by decide)
  exact var?_below hb gPow (lt_of_cell' hc) h
end Go.Proofs.YtjahmlaocgcjpaaGreatDoor
