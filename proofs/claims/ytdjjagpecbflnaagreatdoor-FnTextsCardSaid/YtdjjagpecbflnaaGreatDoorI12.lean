/-
  CONTRACTS of the program's chapter 3, last part: IsSemigroup, Contains, MultiplicityOf, DimensionOf, FromGens, Generates.
-/
import Derived.Test.YtdjjagpecbflnaaGreatDoorI11
namespace Go.Proofs.YtdjjagpecbflnaaGreatDoor
open Go Go.RowKit

set_option maxRecDepth 100000 in
set_option maxHeartbeats 800000 in
theorem impl_IsSemigroup (G : List Int) (a : Option Addr) (cap : Nat) (w : World) (hr : SlV w a (G.map (Value.int .i64))) (hb : G.length ≤ 1048576) :
    Calls Tryz.prog 21 #[.agg #[.slice a G.length cap]] w fun e w' => e = .returned (.bool (isSgB G)) ∧ Below w.heap.size w w' := by
  have hb0 := box_below w (.cells #[.slice a G.length cap] 26)
  have hc0 := box_cell w (.slice a G.length cap)
  have c1 := impl_elementsOf G a cap _ (hr.below hb0) hb
  have HT := fun f => Lib.hid (tabB_one f 260)
  clear hr
  unfold ElPost at c1
  generalize isSgB G = q at *
  go_enter Tryz.func21, Tryz.ntmps21
  go_wp2_with fail
  refine c1.mono ?_
  rintro e w1 ⟨rfl, hb1⟩
  have hbz := hb0.trans (hb1.mono hb0.size)
  have hA := Arr.new w1 62 (tabB (fun _ => false) 260)
  have hbz2 := hbz.alloc (o := .cells (tabB (fun _ => false) 260).toArray 62) hbz.size
  clear c1 hc0 hb1 hb0
  go_wp2_with (first
    | (refine wpList_alloc_arr 62 (tabB (fun _ => false) 260) zeroT rfl rfl ?_)
    | (refine wpList_store_arr 62 (.tmp 3) (.tmp 8) w1.heap.size (tabB (fun _ => false) 260) (tabB (elF G) 260) rfl rfl rfl rfl hA (by rw [tabB_length, tabB_length]) (sizeTl _) (HT _).out ?_; intro w3 hB hg3 hz3; clear hz3))
  have hb3 := hbz2.grown hg3 hbz2.size (fun k hk => by cases hk; exact hbz.size)
  go_ret
  exact ⟨rfl, hb3⟩

theorem hasN_way (G : List Int) (n : Int) : isSgB G = true → hasN G n = if 200 ≤ n then true else if 0 ≤ n then elF G n.toNat else false := by
  intro hs
  split
  · next h => exact hasN_far hs h
  · split
    · next h => unfold hasN elF; rw [decide_eq_true h, Bool.and_true]
    · next h => exact hasN_neg (by omega)





end Go.Proofs.YtdjjagpecbflnaaGreatDoor
