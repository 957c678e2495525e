/-
  CONTRACTS of the program's chapters 15 to 18: hasSums at any number and any list. (Own work.)
-/
import Derived.Test.YtljfiiohiolbnaaCh4I
import Derived.Test.YtljfiiohiolbnaaSgS
namespace Go.Proofs.Ytljfiiohiolbnaa
open Go Go.RowKit
attribute [local go_sem] Oper.semAt_some

set_option maxRecDepth 100000 in
set_option maxHeartbeats 1600000 in
theorem impl_hasSums_any (G : List Int) (hs : isSgB G = true) (n : Int) (hn0 : -2000000 ≤ n) (hn1 : n ≤ 2000000) (L : List Int) (hlen : L.length ≤ 1048576) (hL : ∀ y ∈ L, -2000000 ≤ y ∧ y ≤ 2000000) (a : Option Addr) (cap : Nat) (w : World) (hr : SlV w a (L.map (Value.int .i64))) :
    Calls Try.prog 62 #[.agg (tabB (elF G) 260).toArray, .int .i64 n, .slice a L.length cap] w fun e w' => e = .returned (.bool (L.all fun g => hasN G (n + g))) ∧ Below w.heap.size w w' := by
  have HGG := Lib.hid hL
  have ch : ∀ (x : Int) W, Calls Try.prog 44 #[.agg (tabB (elF G) 260).toArray, .int .i64 (n + x)] W fun e w' => e = .returned (.bool (hasN G (n + x))) ∧ Below W.heap.size W w' := fun x W =>
    impl_has (elF G) (n + x) _ W (hasN_way G (n + x) hs)
  have hA := Arr.new w 54 (tabB (elF G) 260)
  have hB := box_below w (.cells (tabB (elF G) 260).toArray 54)
  generalize hW : w.alloc (.cells (tabB (elF G) 260).toArray 54) = W1 at hA hB
  have hr1 := hr.below hB
  have HQ : Hid (∀ k (hk : k < L.length), (L.take (k + 1)).all (fun g => hasN G (n + g)) = ((L.take k).all (fun g => hasN G (n + g)) && hasN G (n + L[k]))) := Lib.hid fun k hk => all_take (fun g => hasN G (n + g)) hk
  have HNO : Hid (∀ k (hk : k < L.length), hasN G (n + L[k]) = false → (L.all fun g => hasN G (n + g)) = false) := Lib.hid fun k hk h => List.all_eq_false.2 ⟨L[k], List.getElem_mem hk, by simpa using h⟩
  clear hr hs hL
  go_enter Try.func62, Try.ntmps62
  go_wp2_with (first | (refine wpList_box_arr 54 (.tmp 0) (tabB (elF G) 260) rfl rfl rfl ?_; rw [hW]))
  go_loopw [11] (fun i wr => ∃ k : Nat, k ≤ L.length ∧ i = .int .i64 (k : Int) ∧ Hid ((L.take k).all (fun g => hasN G (n + g)) = true) ∧ Arr wr w.heap.size 54 (tabB (elF G) 260) ∧ Below w.heap.size w wr ∧ Below W1.heap.size W1 wr) (fun i _ => L.length - (intOf i).toNat)
  case atStart => exact ⟨0, Nat.zero_le _, rfl, Lib.hid (by simp), hA, hB, Below.refl _ _⟩
  case round =>
    clear hA hB
    obtain ⟨k, hk, rfl, HA, hA, hB, hbel⟩ := hrel
    by_cases hlt : k < L.length
    · have hlti : (k : Int) < (L.length : Int) := by omega
      obtain ⟨b, off, rfl, hbs, hc⟩ := (hr1.below hbel).open (by intro h; rw [List.map_eq_nil_iff] at h; subst h; simp at hlt)
      have hcell : wr.cell? ⟨b, off + k, none⟩ = some (.int .i64 L[k]) := hc k _ (by simp [hlt])
      obtain ⟨hx0, hx1⟩ := HGG.out L[k] (List.getElem_mem hlt)
      have c := ch L[k] wr
      have HQk := HQ.out k hlt
      rw [HA.out, Bool.true_and] at HQk
      have HQ2 := Lib.hid HQk
      have HN := Lib.hid (HNO.out k hlt)
      clear hc ch HQk
      generalize hX : L[k] = x at *
      clear hX
      have hwx : IntKind.i64.wrap (n + x) = n + x := IntWalk.i64_in _ (by omega)
      generalize hasN G (n + x) = q at *
      go_wp2_with (first | (refine wpList_load_arr 54 (.tmp 3) w.heap.size (tabB (elF G) 260) (.array 260 4) rfl rfl rfl hA undT rfl (sizeTl _) ?_))
      refine c.mono ?_
      rintro e w2 ⟨rfl, hb2⟩
      have hA2 := hA.below hb2
      have hB2 := hB.trans (hb2.mono hB.size)
      have hbel2 := hbel.trans (hb2.mono hbel.size)
      clear c hA hB hbel hb2
      cases q
      · have HR := Lib.hid (HN.out rfl)
        clear HN HQ2 HQ HNO
        go_wp2_with fail
        go_ret
        exact ⟨by rw [HR.out]; rfl, hB2⟩
      · clear HN
        go_wp2_with fail
        go_roundw
        case rel => exact ⟨k + 1, by omega, by go_num, HQ2, hA2, hB2, hbel2⟩
        case measure => simp [intOf]; omega
    · have hke : k = L.length := by omega
      rw [hke, List.take_of_length_le (Nat.le_refl _)] at HA
      clear hke HQ HNO
      go_wp2_with fail
      go_ret
      exact ⟨by rw [HA.out]; rfl, hB⟩

end Go.Proofs.Ytljfiiohiolbnaa
