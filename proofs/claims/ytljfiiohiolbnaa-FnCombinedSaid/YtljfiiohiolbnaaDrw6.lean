/-
  CONTRACTS of the draws of chapter 3, last part: l3Copy, two semigroups, lists of generators.
-/
import Derived.Test.YtljfiiohiolbnaaDrS
namespace Go.Proofs.Ytljfiiohiolbnaa
open Go Go.RowKit



end Go.Proofs.Ytljfiiohiolbnaa
