/-
  No contract of the shelf is wanted at this seat.
-/
import Derived.Test.YtfbfkaphcmngkaaProg
namespace Go.Proofs
end Go.Proofs
