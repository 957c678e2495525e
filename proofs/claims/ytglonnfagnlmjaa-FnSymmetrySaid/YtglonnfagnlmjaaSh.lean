/-
  No contract of the shelf is wanted at this seat.
-/
import Derived.Test.YtglonnfagnlmjaaProg
namespace Go.Proofs
end Go.Proofs
