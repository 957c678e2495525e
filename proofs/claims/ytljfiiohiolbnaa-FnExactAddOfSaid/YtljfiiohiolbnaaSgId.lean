/-
  CHAPTERS 16 TO 18 WITHOUT A FUNCTION OF EITHER SIDE: ideals, quotients, common parts and sums. (Own work.)
-/
import Derived.Test.YtljfiiohiolbnaaSgSr
import Derived.Test.YtljfiiohiolbnaaSgO
import Derived.Test.YtljfiiohiolbnaaSgS
import Derived.Test.YtljfiiohiolbnaaSgF
namespace Go.Proofs.Ytljfiiohiolbnaa
open Go

def validB (L : List Int) : Bool := L.all (fun x => inB x (-200) 200) && inB (L.length : Int) 1 20
theorem validB_iff {L : List Int} : validB L = true ↔ (∀ x ∈ L, -200 ≤ x ∧ x ≤ 200) ∧ 1 ≤ L.length ∧ L.length ≤ 20 := by
  unfold validB inB
  simp only [Bool.and_eq_true, List.all_eq_true, decide_eq_true_eq]
  constructor
  · rintro ⟨h, h1, h2⟩; exact ⟨h, by omega, by omega⟩
  · rintro ⟨h, h1, h2⟩; exact ⟨h, by omega, by omega⟩
noncomputable def inIdB (G L : List Int) (x : Int) : Bool := isSgB G && validB L && small x && L.any fun y => hasN G (x - y)
noncomputable def idGensL (G L : List Int) : List Int := if validB L then topL G L true else []
noncomputable def idSumL (G A B : List Int) : List Int := if validB A && validB B then topL G (sums A B) true else []
noncomputable def dualB (G L : List Int) (x : Int) : Bool := L.all fun y => hasN G (x + y)
def leastI (L : List Int) : Int := (sortL L).headD 0
noncomputable def dualAll (G L : List Int) : List Int := ((List.range (condNat G + (G.headD 0).toNat)).map fun (k : Nat) => (k : Int) - leastI L).filter (dualB G L)
noncomputable def dualL (G L : List Int) : List Int := if isSgB G && validB L then topL G (dualAll G L) true else []
noncomputable def canonL (G : List Int) : List Int := if isSgB G then (if psfL G = [] then [0] else sortL ((psfL G).map fun x => frobN G - x)) else []
noncomputable def quotGaps (G : List Int) (d : Int) : List Int := ((List.range 199).map fun (k : Nat) => (k : Int) + 1).filter fun n => !hasN G (n * d)
noncomputable def quotB (G : List Int) (d : Int) : Bool := isSgB G && inB d 1 20 && fromGpB (quotGaps G d)
noncomputable def quotL (G : List Int) (d : Int) : List Int := if isSgB G && inB d 1 20 then fromGpL (quotGaps G d) else []
noncomputable def scaledL (G : List Int) (d most : Int) : List Int := if isSgB G && inB d 1 20 && inB most 0 200 then (upB (sumB G) (most.toNat + 1)).map fun (k : Nat) => (k : Int) * d else []
noncomputable def withinB (A B : List Int) : Bool := isSgB A && isSgB B && A.all (hasN B)
noncomputable def meetB (A B : List Int) : Bool := isSgB A && isSgB B && fromGpB (sortL (gapsL A ++ gapsL B))
noncomputable def meetL (A B : List Int) : List Int := if isSgB A && isSgB B then fromGpL (sortL (gapsL A ++ gapsL B)) else []
noncomputable def addB (A B : List Int) : Bool := isSgB A && isSgB B && fromB (A ++ B)
noncomputable def addL (A B : List Int) : List Int := if isSgB A && isSgB B then fromL (A ++ B) else []
theorem valid_len {L : List Int} (h : validB L = true) : L.length ≤ 20 := (validB_iff.1 h).2.2
theorem idGensL_len (G L : List Int) : (idGensL G L).length ≤ 20 := by
  unfold idGensL
  split
  · next h => exact Nat.le_trans (topL_len G L true) (valid_len h)
  · simp
theorem sums_len {A B : List Int} (ha : validB A = true) (hb : validB B = true) : (sums A B).length ≤ 400 := by
  unfold sums
  split
  · refine Nat.le_trans (sortL_length_le _) ?_
    unfold allSums
    have h1 := valid_len ha
    have h2 := valid_len hb
    have h : ∀ (A : List Int), (A.flatMap fun x => B.map fun y => x + y).length = A.length * B.length := fun A => by
      induction A with
      | nil => simp
      | cons a r ih => rw [List.flatMap_cons, List.length_append, ih, List.length_map, List.length_cons, Nat.add_mul, Nat.one_mul]; omega
    rw [h]; exact Nat.mul_le_mul h1 h2
  · simp
theorem idSumL_len (G A B : List Int) : (idSumL G A B).length ≤ 400 := by
  unfold idSumL
  split
  · next h => rw [Bool.and_eq_true] at h; exact Nat.le_trans (topL_len G _ true) (sums_len h.1 h.2)
  · simp
theorem dualAll_len {G L : List Int} (h : isSgB G = true) : (dualAll G L).length ≤ 260 := by
  unfold dualAll
  refine Nat.le_trans (List.length_filter_le _ _) ?_
  rw [List.length_map, List.length_range]
  have h1 := condNat_le G
  have hS := isSgB_iff.1 h
  have h0 : 1 ≤ G.length := (okG_iff.1 hS.ok).2.1
  cases G with
  | nil => simp at h0
  | cons g r => have := hS.bounds g (by simp); simp; omega
theorem dualL_len (G L : List Int) : (dualL G L).length ≤ 260 := by
  unfold dualL
  split
  · next h => rw [Bool.and_eq_true] at h; exact Nat.le_trans (topL_len G _ true) (dualAll_len h.1)
  · simp
theorem scaledL_len (G : List Int) (d most : Int) : (scaledL G d most).length ≤ 201 := by
  unfold scaledL
  split
  · next h =>
    simp only [Bool.and_eq_true] at h
    have h3 := h.2
    unfold inB at h3
    rw [Bool.and_eq_true, decide_eq_true_eq, decide_eq_true_eq] at h3
    rw [List.length_map]
    have := upB_len_le (sumB G) (most.toNat + 1)
    omega
  · simp
theorem canonL_len (G : List Int) : (canonL G).length ≤ 200 := by
  unfold canonL
  split
  · split
    · simp
    · refine Nat.le_trans (sortL_length_le _) ?_
      rw [List.length_map]; exact psfL_len_le G
  · simp
theorem quotL_len (G : List Int) (d : Int) : (quotL G d).length ≤ 12 := by
  unfold quotL
  split
  · exact fromGpL_len _
  · simp
theorem meetL_len (A B : List Int) : (meetL A B).length ≤ 12 := by
  unfold meetL
  split
  · exact fromGpL_len _
  · simp
theorem addL_len (A B : List Int) : (addL A B).length ≤ 12 := by
  unfold addL
  split
  · exact fromL_length_le _
  · simp
end Go.Proofs.Ytljfiiohiolbnaa
