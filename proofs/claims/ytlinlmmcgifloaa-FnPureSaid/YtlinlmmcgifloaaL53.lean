/-
  CONTRACTS of the reference's chapter 16: l16Valid, l16In, l16Dual, InIdeal, IdealGens, IdealSum. (Own work: mkL53.py.)
-/
import Derived.Test.YtlinlmmcgifloaaL51
import Derived.Test.YtlinlmmcgifloaaSgId
import Derived.Test.YtlinlmmcgifloaaL36
namespace Go.Proofs.Ytlinlmmcgifloaa
open Go Go.RowKit

set_option maxRecDepth 100000 in
set_option maxHeartbeats 1600000 in
theorem spec_l16Valid (L : List Int) (al : Option Addr) (cl : Nat) (w : World) (hrl : SlV w al (L.map (Value.int .i64))) (hbl : L.length ≤ 1048576) :
    Calls Try.prog 127 #[.slice al L.length cl] w fun e w' => e = .returned (.bool (validB L)) ∧ w' = w := by
  have ci := fun (x : Int) w => l1In_any x (-200) 200 w
  have cj := fun w => l1In_any (L.length : Int) 1 20 w
  go_enter Try.func127, Try.ntmps127
  go_wp2_with fail
  go_loop [3] (fun i => ∃ k : Nat, k ≤ L.length ∧ i = .int .i64 (k : Int) ∧ (L.take k).all (fun x => inB x (-200) 200) = true) (fun i => L.length - (intOf i).toNat)
  case atStart => exact ⟨0, Nat.zero_le _, rfl, by simp⟩
  case round =>
    obtain ⟨k, hk, rfl, hall⟩ := hrel
    have HA := Lib.hid hall
    clear hall
    by_cases hlt : k < L.length
    · obtain ⟨b, off, rfl, hbs, hc⟩ := hrl.open (by intro h; rw [List.map_eq_nil_iff] at h; subst h; simp at hlt)
      have hcell : w.cell? ⟨b, off + k, none⟩ = some (.int .i64 L[k]) := hc k _ (by simp [hlt])
      have hlti : (k : Int) < (L.length : Int) := by omega
      have hm := List.getElem_mem hlt
      have HT : Hid (L.take (k + 1) = L.take k ++ [L[k]]) := Lib.hid (by rw [List.take_add_one, List.getElem?_eq_getElem hlt]; rfl)
      have cx := fun w => ci L[k] w
      clear hc hrl ci
      cases hx : inB L[k] (-200) 200
      · have HR : Hid (validB L = false) := Lib.hid (by unfold validB; rw [show L.all (fun x => inB x (-200) 200) = false from List.all_eq_false.2 ⟨L[k], hm, by rw [hx]; exact Bool.false_ne_true⟩]; rfl)
        rw [hx] at cx
        clear hx hm HT
        generalize L[k] = x at *
        go_wp2_with fail
        refine (cx _).mono ?_
        rintro e w2 ⟨rfl, hww⟩
        subst hww
        go_wp2_with fail
        go_ret
        exact ⟨by rw [HR.out]; rfl, rfl⟩
      · have HS : Hid ((L.take (k + 1)).all (fun x => inB x (-200) 200) = true) := Lib.hid (by rw [HT.out, List.all_append, HA.out]; simp [hx])
        rw [hx] at cx
        clear hx hm HT
        generalize L[k] = x at *
        go_wp2_with fail
        refine (cx _).mono ?_
        rintro e w2 ⟨rfl, hww⟩
        subst hww
        clear cx
        go_wp2_with fail
        go_round
        case rel => exact ⟨k + 1, by omega, by go_num, HS.out⟩
        case measure => simp [intOf]; omega
    · obtain rfl : k = L.length := by omega
      have hlti : ¬ ((L.length : Nat) : Int) < (L.length : Int) := by omega
      have HR : Hid (validB L = inB (L.length : Int) 1 20) := Lib.hid (by have := HA.out; rw [List.take_length] at this; unfold validB; rw [this, Bool.true_and])
      clear hrl ci
      generalize inB (L.length : Int) 1 20 = q at *
      go_wp2_with fail
      refine (cj _).mono ?_
      rintro e w2 ⟨rfl, hww⟩
      subst hww
      go_wp2_with fail
      go_ret
      exact ⟨by rw [HR.out]; rfl, rfl⟩
set_option maxRecDepth 100000 in
set_option maxHeartbeats 1600000 in
theorem spec_IdealGens (G L : List Int) (a : Option Addr) (cap : Nat) (al : Option Addr) (cl : Nat) (w : World) (hr : SlV w a (G.map (Value.int .i64))) (hrl : SlV w al (L.map (Value.int .i64))) (hb : G.length ≤ 1048576) (hbl : L.length ≤ 1048576) :
    Calls Try.prog 70 #[.agg #[.slice a G.length cap], .slice al L.length cl] w (SlPost (idGensL G L) w) := by
  obtain ⟨V, hV⟩ : ∃ V, V = w.alloc (.cells #[.slice a G.length cap] 26) := ⟨_, rfl⟩
  have hbV : Below w.heap.size w V := by rw [hV]; exact box_below _ _
  have hc0 : V.cell? ⟨w.heap.size, 0, none⟩ = some (.slice a G.length cap) := by rw [hV]; exact box_cell w _
  have hVs : w.heap.size < V.heap.size := by rw [hV]; simp
  have HV := Lib.hid hV
  clear hV
  have cv := spec_l16Valid L al cl V (hrl.below hbV) hbl
  cases hv : validB L
  · have HE : Hid (idGensL G L = []) := Lib.hid (by unfold idGensL; rw [hv]; rfl)
    rw [hv] at cv
    clear hv hr hrl hc0
    go_enter Try.func70, Try.ntmps70
    go_wp2_with fail
    rw [← HV.out]
    refine cv.mono ?_
    rintro e w1 ⟨rfl, hww⟩
    subst hww
    go_wp2_with fail
    go_ret
    exact ⟨_, rfl, by rw [HE.out]; exact World.ownsRow_lit _ #[] 0 hbV.size (by simp) rfl, hbV.alloc hbV.size _⟩
  · rw [hv] at cv
    have HE : Hid (idGensL G L = topL G L true) := Lib.hid (by unfold idGensL; rw [hv]; rfl)
    have cm := spec_MinimalIn G L a cap al cl V (hr.below hbV) (hrl.below hbV) hb hbl
    clear hv hr hrl
    generalize topL G L true = M at *
    go_enter Try.func70, Try.ntmps70
    go_wp2_with fail
    rw [← HV.out]
    refine cv.mono ?_
    rintro e w1 ⟨rfl, hww⟩
    subst hww
    clear cv
    go_wp2_with fail
    refine cm.mono ?_
    rintro e w2 ⟨v, rfl, ho, hb2⟩
    have HO := Lib.hid (ownsBase ho hbV.size)
    have hb02 := hbV.trans (hb2.mono hbV.size)
    clear cm ho hc0
    go_wp2_with fail
    go_ret
    exact ⟨_, rfl, by rw [HE.out]; exact HO.out, hb02⟩
end Go.Proofs.Ytlinlmmcgifloaa
