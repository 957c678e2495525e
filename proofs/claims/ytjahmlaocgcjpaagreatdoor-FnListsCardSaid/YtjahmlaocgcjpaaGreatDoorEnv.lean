/-
  WHAT THE PROGRAM's CONTRACTS ASK OF GO's LIBRARY's VARIABLES, in one word each, kept from world to world.
-/
import Derived.Test.YtjahmlaocgcjpaaGreatDoorErrs
import Derived.Test.YtjahmlaocgcjpaaGreatDoorSplit
namespace Go.Proofs.YtjahmlaocgcjpaaGreatDoor
open Go Go.RowKit

/-- What FormatInt asks. -/
def EnvFmt (w : World) : Prop := Lib.TabIs Tryz.prog w "internal/strconv.uint64pow10" .u64 Lib.pow10Tab
theorem EnvFmt.below {w w' : World} (h : EnvFmt w) (hb : Below w.heap.size w w') : EnvFmt w' := powIs_below h hb

/-- What ParseList asks. -/
structure EnvParse (w : World) : Prop where
  fmt : EnvFmt w
  syn : ∃ t p, w.var? Tryz.prog "strconv.ErrSyntax" = some #[.iface t p]
  rng : ∃ t p, w.var? Tryz.prog "strconv.ErrRange" = some #[.iface t p]
  mx : MaxLenIs w
theorem EnvParse.below {w w' : World} (h : EnvParse w) (hb : Below w.heap.size w w') : EnvParse w' :=
  ⟨h.fmt.below hb, by obtain ⟨t, p, e⟩ := h.syn; exact ⟨t, p, varIs_below gSyn e hb⟩, by obtain ⟨t, p, e⟩ := h.rng; exact ⟨t, p, varIs_below gRng e hb⟩, h.mx.below hb⟩
end Go.Proofs.YtjahmlaocgcjpaaGreatDoor
