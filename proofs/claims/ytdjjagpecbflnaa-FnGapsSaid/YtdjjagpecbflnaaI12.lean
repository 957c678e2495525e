/-
  CONTRACTS of the program's chapter 3, last part: IsSemigroup, Contains, MultiplicityOf, DimensionOf, FromGens, Generates.
-/
import Derived.Test.YtdjjagpecbflnaaI11
namespace Go.Proofs.Ytdjjagpecbflnaa
open Go Go.RowKit


theorem hasN_way (G : List Int) (n : Int) : isSgB G = true → hasN G n = if 200 ≤ n then true else if 0 ≤ n then elF G n.toNat else false := by
  intro hs
  split
  · next h => exact hasN_far hs h
  · split
    · next h => unfold hasN elF; rw [decide_eq_true h, Bool.and_true]
    · next h => exact hasN_neg (by omega)

set_option maxRecDepth 100000 in
set_option maxHeartbeats 800000 in
theorem impl_Contains (G : List Int) (n : Int) (a : Option Addr) (cap : Nat) (w : World) (hr : SlV w a (G.map (Value.int .i64))) (hb : G.length ≤ 1048576) :
    Calls Try.prog 31 #[.agg #[.slice a G.length cap], .int .i64 n] w fun e w' => e = .returned (.bool (hasN G n)) ∧ Below w.heap.size w w' := by
  have hb0 := box_below w (.cells #[.slice a G.length cap] 26)
  have hc0 := box_cell w (.slice a G.length cap)
  have c1 := impl_elementsOf G a cap _ (hr.below hb0) hb
  have HT := fun f => Lib.hid (tabB_one f 260)
  clear hr
  cases hs : isSgB G
  · have HR := Lib.hid (hasN_not hs n)
    unfold ElPost at c1
    rw [hs] at c1
    clear hs
    go_enter Try.func31, Try.ntmps31
    go_wp2_with fail
    refine c1.mono ?_
    rintro e w1 ⟨rfl, hb1⟩
    have hbz := hb0.trans (hb1.mono hb0.size)
    have hA := Arr.new w1 48 (tabB (fun _ => false) 260)
    have hbz2 := hbz.alloc (o := .cells (tabB (fun _ => false) 260).toArray 48) hbz.size
    clear c1 hc0 hb1 hb0
    go_wp2_with (first
      | (refine wpList_alloc_arr 48 (tabB (fun _ => false) 260) zeroT rfl rfl ?_)
      | (refine wpList_store_arr 48 (.tmp 5) (.tmp 10) w1.heap.size (tabB (fun _ => false) 260) (tabB (elF G) 260) rfl rfl rfl rfl hA (by rw [tabB_length, tabB_length]) (sizeTl _) (HT _).out ?_; intro w3 hB hg3 hz3; clear hz3))
    have hb3 := hbz2.grown hg3 hbz2.size (fun k hk => by cases hk; exact hbz.size)
    go_ret
    exact ⟨by rw [HR.out]; rfl, hb3⟩
  · have ch := fun w => impl_has (elF G) n (hasN G n) w (hasN_way G n hs)
    unfold ElPost at c1
    rw [hs] at c1
    clear hs
    generalize hasN G n = q at *
    go_enter Try.func31, Try.ntmps31
    go_wp2_with fail
    refine c1.mono ?_
    rintro e w1 ⟨rfl, hb1⟩
    have hbz := hb0.trans (hb1.mono hb0.size)
    have hA := Arr.new w1 48 (tabB (fun _ => false) 260)
    have hbz2 := hbz.alloc (o := .cells (tabB (fun _ => false) 260).toArray 48) hbz.size
    clear c1 hc0 hb1 hb0
    go_wp2_with (first
      | (refine wpList_alloc_arr 48 (tabB (fun _ => false) 260) zeroT rfl rfl ?_)
      | (refine wpList_store_arr 48 (.tmp 5) (.tmp 10) w1.heap.size (tabB (fun _ => false) 260) (tabB (elF G) 260) rfl rfl rfl rfl hA (by rw [tabB_length, tabB_length]) (sizeTl _) (HT _).out ?_; intro w3 hB hg3 hz3; clear hz3))
    refine wp_load_mid 48 (.tmp 5) rfl w1.heap.size 0 rfl (tabB (elF G) 260) (.array 260 4) hB.range undT rfl (sizeTl _) ?_
    go_wp2_with fail
    have hb3 := hbz2.grown hg3 hbz2.size (fun k hk => by cases hk; exact hbz.size)
    refine (ch _).mono ?_
    rintro e w4 ⟨rfl, hb4⟩
    have hbz4 := hb3.trans (hb4.mono hb3.size)
    go_wp2_with fail
    go_ret
    exact ⟨rfl, hbz4⟩




end Go.Proofs.Ytdjjagpecbflnaa
