/-
  CHAPTER 4 OF THE REFERENCE: FrobeniusOf, GenusOf, ConductorOf. (Own work.)
-/
import Derived.Test.YtdjjagpecbflnaaGreatDoorL13
namespace Go.Proofs.YtdjjagpecbflnaaGreatDoor
open Go Go.RowKit

theorem gapsL_length_le (G : List Int) : (gapsL G).length ≤ 200 := by
  unfold gapsL
  split
  · rw [List.length_map]; exact upB_len_le _ _
  · simp



end Go.Proofs.YtdjjagpecbflnaaGreatDoor
