/-
  CONTRACTS of the program's chapter 8, first part: areGaps, otherThan (a closure over an array), GapClash. (Own work.)
-/
import Derived.Test.YtljfiiohiolbnaaL25
import Derived.Test.YtljfiiohiolbnaaI24
namespace Go.Proofs.Ytljfiiohiolbnaa
open Go Go.RowKit
attribute [local go_sem] Oper.semAt_some

theorem okGp_ends {L : List Int} (h : 0 < L.length) (ha : ascB L = true) : okGp L = (decide ((1 : Int) ≤ L[0]) && decide (L[L.length - 1] < 200)) := by
  have hasc := asc_of_ascB ha
  have hmono : ∀ (i j : Nat) (hi : i < L.length) (hj : j < L.length), i ≤ j → L[i] ≤ L[j] := fun i j hi hj hij => by
    rcases Nat.eq_or_lt_of_le hij with e | e
    · subst e; exact Int.le_refl _
    · exact Int.le_of_lt (hasc i j hj e)
  by_cases h1 : (1 : Int) ≤ L[0]
  · by_cases h2 : L[L.length - 1] < 200
    · rw [decide_eq_true h1, decide_eq_true h2]
      refine okGp_iff.2 ⟨fun x hx => ?_, ha⟩
      obtain ⟨i, hi, rfl⟩ := List.getElem_of_mem hx
      have := hmono 0 i h hi (Nat.zero_le _)
      have := hmono i (L.length - 1) hi (by omega) (by omega)
      omega
    · rw [decide_eq_false h2, Bool.and_false]
      cases hok : okGp L
      · rfl
      · have := (okGp_iff.1 hok).1 _ (List.getElem_mem (show L.length - 1 < L.length by omega)); omega
  · rw [decide_eq_false h1, Bool.false_and]
    cases hok : okGp L
    · rfl
    · have := (okGp_iff.1 hok).1 _ (List.getElem_mem h); omega
theorem okGp_nil : okGp [] = true := okGp_iff.2 ⟨fun x hx => by simp at hx, ascB_true fun k hk => by simp at hk⟩
theorem okGp_desc {L : List Int} (h : ascB L = false) : okGp L = false := by unfold okGp; rw [h, Bool.and_false]

set_option maxRecDepth 100000 in
set_option maxHeartbeats 1600000 in
theorem impl_areGaps (L : List Int) (a : Option Addr) (cap : Nat) (w : World) (hr : SlV w a (L.map (Value.int .i64))) (hb : L.length ≤ 1048576) :
    Calls Try.prog 85 #[.slice a L.length cap] w fun e w' => e = .returned (.bool (okGp L)) ∧ Below w.heap.size w w' := by
  by_cases hl : L.length = 0
  · have HR := Lib.hid (show okGp L = true by rw [List.eq_nil_of_length_eq_zero hl]; exact okGp_nil)
    rw [hl]
    clear hr hl
    go_enter Try.func85, Try.ntmps85
    go_wp2_with fail
    go_ret
    exact ⟨by rw [HR.out]; rfl, Below.refl _ _⟩
  · have hne : ((L.length : Int) == 0) = false := by rw [beq_eq_false_iff_ne]; omega
    have hp : 0 < L.length := by omega
    have c1 := impl_IsAscending L a cap w hr (by unfold maxLen; omega)
    cases hq : ascB L
    · have HR := Lib.hid (okGp_desc hq)
      rw [hq] at c1
      clear hr hq
      go_enter Try.func85, Try.ntmps85
      go_wp2_with fail
      refine c1.mono ?_
      rintro e w1 ⟨rfl, hb1⟩
      go_wp2_with fail
      go_ret
      exact ⟨by rw [HR.out]; rfl, hb1⟩
    · have HR := Lib.hid (okGp_ends hp hq)
      obtain ⟨b, off, rfl, hbs, hc⟩ := hr.open (by intro h; rw [List.map_eq_nil_iff] at h; subst h; simp at hp)
      have h0 : w.cell? ⟨b, off, none⟩ = some (.int .i64 L[0]) := hc 0 _ (by rw [List.getElem?_map, List.getElem?_eq_getElem hp]; rfl)
      have h1 : w.cell? ⟨b, off + (L.length - 1), none⟩ = some (.int .i64 L[L.length - 1]) := hc (L.length - 1) _ (by rw [List.getElem?_map, List.getElem?_eq_getElem (by omega)]; rfl)
      rw [hq] at c1
      clear hr hq hc
      generalize L[0] = x at *
      generalize L[L.length - 1] = y at *
      obtain ⟨l1, hl1⟩ : ∃ l1, l1 = L.length - 1 := ⟨_, rfl⟩
      rw [← hl1] at h1
      have hwl : (L.length : Int) - 1 = (l1 : Int) := by omega
      have hv1 : (0 : Int) ≤ (l1 : Int) := by omega
      have hv2 : (l1 : Int) < (L.length : Int) := by omega
      have hv3 : (0 : Int) < (L.length : Int) := by omega
      clear hl1
      go_enter Try.func85, Try.ntmps85
      go_wp2_with fail
      refine c1.mono ?_
      rintro e w1 ⟨rfl, hb1⟩
      have k0 := (hb1.cell (p := ⟨b, off, none⟩) hbs).trans h0
      have k1 := (hb1.cell (p := ⟨b, off + l1, none⟩) hbs).trans h1
      clear h0 h1 c1
      by_cases hx : 1 ≤ x
      · have hd := decide_eq_true hx
        go_wp2_with fail
        go_ret
        exact ⟨by rw [HR.out, hd, Bool.true_and]; rfl, hb1⟩
      · have hd := decide_eq_false hx
        go_wp2_with fail
        go_ret
        exact ⟨by rw [HR.out, hd, Bool.false_and]; rfl, hb1⟩

/-! ### The table behind the closure -/
theorem zero200 : (Try.prog.info? 90).map (·.zero) = some (some (.agg (tab8 (fun _ => false) 200).toArray)) := by kernel_rfl
theorem built200 : Try.prog.built 90 [] = some (tab8 (fun _ => false) 200).toArray := by kernel_rfl
theorem und200 : Try.prog.underlying 90 = some (.array 200 4) := by kernel_rfl
theorem size200 (f : Nat → Bool) : (Try.prog.info? 90).map (·.size) = some (tab8 f 200).length := by rw [tab8_len]; kernel_rfl
theorem tab8_one (f : Nat → Bool) (T : Nat) : ∀ v ∈ tab8 f T, v.oneCell' = true := by
  intro v hv
  unfold tab8 at hv
  obtain ⟨j, -, rfl⟩ := List.mem_map.1 hv
  rfl
theorem isIn_nil (n : Nat) : isIn [] n = false := isIn_false.2 (by simp)

set_option maxRecDepth 100000 in
set_option maxHeartbeats 1600000 in
theorem impl_otherThan (L : List Int) (a : Option Addr) (cap : Nat) (w : World) (hr : SlV w a (L.map (Value.int .i64))) (hb : L.length ≤ 1048576) (hok : okGp L = true) :
    Calls Try.prog 86 #[.slice a L.length cap] w fun e w' => e = .returned (.func (.func 92) #[] #[.pointer (some ⟨w.heap.size, 0, none⟩)]) ∧ Arr w' w.heap.size 90 (tab8 (isIn L) 200) ∧ Below w.heap.size w w' := by
  have hmf : ∀ (fn : Fn) (first cap : Array Value) (w : World), (Instr.makeFunc fn first cap).run Try.prog w = .ok (.func fn first cap) w := fun _ _ _ _ => rfl
  have hA0 := Arr.new w 90 (tab8 (fun _ => false) 200)
  have hb0 := box_below w (.cells (tab8 (fun _ => false) 200).toArray 90)
  have HOK := Lib.hid (okGp_iff.1 hok).1
  clear hok
  have HT := fun f => Lib.hid (tab8_one f 200)
  go_enter Try.func86, Try.ntmps86
  go_wp2_with (first
    | (refine wpList_build_arr 90 _ (tab8 (fun _ => false) 200) rfl rfl (by simpa [Act.eval] using built200) ?_)
    | (refine wpList_alloc_arr 90 (tab8 (fun _ => false) 200) zero200 rfl rfl ?_)
    | (refine wpList_store_arr 90 (.tmp 3) (.tmp 6) w.heap.size (tab8 (fun _ => false) 200) (tab8 (fun _ => false) 200) rfl rfl rfl rfl hA0 rfl (size200 _) (HT _).out ?_; intro w1 hA1 hg1 hz1))
  have hb1 := hb0.grown hg1 hb0.size (fun k hk => by cases hk; exact Nat.le_refl _)
  rw [show tab8 (fun _ => false) 200 = tab8 (isIn (L.take 0)) 200 from congrArg (fun f => tab8 f 200) (funext fun n => (isIn_nil n).symm)] at hA1
  clear hA0 hb0 hg1 hz1
  go_loopw [9] (fun i wr => ∃ k : Nat, k ≤ L.length ∧ i = .int .i64 (k : Int) ∧ Arr wr w.heap.size 90 (tab8 (isIn (L.take k)) 200) ∧ Below w.heap.size w wr) (fun i _ => L.length - (intOf i).toNat)
  case atStart => exact ⟨0, Nat.zero_le _, rfl, hA1, hb1⟩
  case round =>
    clear hA1 hb1
    obtain ⟨k, hk, rfl, hA, hbel⟩ := hrel
    by_cases hlt : k < L.length
    · obtain ⟨b, off, rfl, hbs, hc⟩ := hr.open (by intro h; rw [List.map_eq_nil_iff] at h; subst h; simp at hlt)
      have hcell : wr.cell? ⟨b, off + k, none⟩ = some (.int .i64 L[k]) := by rw [hbel.cell (p := ⟨b, off + k, none⟩) hbs]; exact hc k _ (by simp [hlt])
      obtain ⟨hx1, hx2⟩ := HOK.out L[k] (List.getElem_mem hlt)
      obtain ⟨X, hX⟩ := Int.eq_ofNat_of_zero_le (show 0 ≤ L[k] by omega)
      have hXi : L[k]? = some (X : Int) := by rw [List.getElem?_eq_getElem hlt, hX]
      have hset := tab8_set (isIn (L.take k)) (isIn (L.take (k + 1))) 200 X true (fun j _ => isIn_take_succ hXi j)
      have hA2 := hA.set X (.bool true)
      rw [hset] at hA2
      have hu := (hA.cell X).trans (tab8_get _ 200 X (by omega))
      have hf := hA.frozen X
      rw [hX] at hcell hx1 hx2
      have hlt2 : (X : Int) < 200 := by omega
      have hbel2 := hbel.setCell (p := ⟨w.heap.size, X, none⟩) (Nat.le_refl _) (.bool true)
      clear hc hset hXi hX hA
      go_wp2_with fail
      go_roundw
      case rel => exact ⟨k + 1, by omega, by go_num, hA2, hbel2⟩
      case measure => simp [intOf]; omega
    · have hke : k = L.length := by omega
      rw [hke, List.take_of_length_le (Nat.le_refl _)] at hA
      clear hke
      go_wp2_with fail
      go_ret
      exact ⟨rfl, hA, hbel⟩

set_option maxRecDepth 100000 in
set_option maxHeartbeats 400000 in
theorem impl_isElement (f : Nat → Bool) (n g : Nat) (w : World) (hA : Arr w g 90 (tab8 f 200)) (hn : n ≤ 1000000) (hf : ∀ m, 200 ≤ m → f m = false) :
    Calls Try.prog 92 #[.int .i64 (n : Int), .pointer (some ⟨g, 0, none⟩)] w fun e w' => e = .returned (.bool (!f n)) ∧ w' = w := by
  by_cases h : 200 ≤ n
  · have hfn := hf n h
    have hd : decide ((200 : Int) ≤ (n : Int)) = true := decide_eq_true (by omega)
    rw [hfn]
    clear hA hfn
    go_enter Try.func92, Try.ntmps92
    go_wp2_with fail
    go_ret
    exact ⟨rfl, rfl⟩
  · have hd : decide ((200 : Int) ≤ (n : Int)) = false := decide_eq_false (by omega)
    have hc := (hA.cell n).trans (tab8_get f 200 n (by omega))
    have hlt : (n : Int) < 200 := by omega
    generalize f n = q at *
    clear hA
    go_enter Try.func92, Try.ntmps92
    go_wp2_with fail
    go_ret
    exact ⟨rfl, rfl⟩
end Go.Proofs.Ytljfiiohiolbnaa
