/-
  CONTRACTS of Go's slices.Grow of nil and slices.Concat of two lists of ints, out of the program's translation. (Own work: mk71i.py.)
-/
import Derived.Test.YtekeaigdphicaaaCh2
import Derived.Lib.AppendZeros
import Derived.Maps.AppendAt
import Derived.WalkMore
namespace Go.Proofs.Ytekeaigdphicaaa
open Go Go.RowKit
attribute [local go_sem] Oper.semAt_some

set_option maxRecDepth 100000 in
set_option maxHeartbeats 1600000 in
theorem impl_GrowNil (n : Nat) (h0 : 0 < n) (hn : n ≤ 1000) (w : World) :
    Calls Try.prog 75 #[.slice none 0 0, .int .i64 (n : Int)] w fun e w' => ∃ c, e = .returned (.slice (some ⟨w.heap.size, 0, none⟩) 0 c) ∧ w'.ownsRow w.heap.size 3 1 (.slice (some ⟨w.heap.size, 0, none⟩) 0 c) 0 [] ∧ Below w.heap.size w w' := by
  obtain ⟨i0, hi, hz0, hz1, hz2⟩ := info_parts infoIntL
  have happ := Lib.run_append_nil_zeros (P := Try.prog) w 22 3 22 3 i0 (.int .i64 0) .i64 .i64 Try.underlying22 Try.underlying3 hi hz0 n h0 (by rw [hz1]; decide) (by omega) (by rw [hz2]; omega)
  have hcapge : n ≤ grownCap w n 0 3 := grownCap_ge w _ 0 3
  have hcaple : grownCap w n 0 3 ≤ maxLen := grownCap_le_maxLen w _ 0 3 (by unfold maxLen; omega)
  generalize grownCap w n 0 3 = cap2 at *
  generalize hZ : (Builtin.zeroCells (Value.int .i64 0).cells n ++ Builtin.zeroCells (Value.int .i64 0).cells (cap2 - n)) = Z at happ
  have hZs : Z.size = cap2 := by rw [← hZ]; simp [size_zeroCells, Value.cells]; omega
  clear hZ
  have hni : ¬ (n : Int) < 0 := by omega
  have hnp : 0 < (n : Int) := by omega
  have ho : (w.drew.alloc (.cells Z 3)).ownsRow w.heap.size 3 1 (.slice (some ⟨w.heap.size, 0, none⟩) 0 cap2) 0 [] := ⟨rfl, .inr ⟨w.heap.size, cap2, Z, rfl, Nat.le_refl _, heap_alloc_new w.drew _, Nat.zero_le _, hcaple, by omega, by simp⟩⟩
  have hbl : Below w.heap.size w (w.drew.alloc (.cells Z 3)) := (Below.refl _ _).drew.alloc (Nat.le_refl _) _
  generalize hX : w.drew.alloc (.cells Z 3) = X at *
  clear hX
  go_enter Try.func75, Try.ntmps75
  go_wp2_with (at_builtin; refine Lib.wpList_append_run _ rfl (.tmp 20) (.tmp 21) _ _ rfl _ _ rfl rfl _ _ happ ?_)
  go_ret
  exact ⟨cap2, rfl, ho, hbl⟩

theorem addr_addV (b o j : Nat) : (⟨b, o, none⟩ : Addr).add j = ⟨b, o + j, none⟩ := by
  unfold Addr.add
  split
  · next h => subst h; rfl
  · rfl
theorem oneInts (L : List Int) : ∀ u ∈ L.map (Value.int .i64), u.oneCell' = true := by
  intro u hu
  obtain ⟨x, -, rfl⟩ := List.mem_map.1 hu
  rfl
theorem newsOf {w : World} {b o : Nat} {L : List Int} (h : SlV w (some ⟨b, o, none⟩) (L.map (Value.int .i64))) : ∀ j u, (L.map (Value.int .i64))[j]? = some u → w.cell? ((⟨b, o, none⟩ : Addr).add j) = some u := fun j u hu => by
  rw [addr_addV]
  rcases h with h | ⟨b', o', e, -, hc⟩
  · rw [h] at hu; simp at hu
  · cases e; exact hc j u hu

set_option maxRecDepth 100000 in
set_option maxHeartbeats 1600000 in
theorem impl_Concat2 (L M : List Int) (a : Option Addr) (c : Nat) (b : Option Addr) (d p : Nat) (w : World) (hL : L ≠ []) (hM : M ≠ []) (hl : L.length ≤ 100) (hm : M.length ≤ 100) (hrL : SlV w a (L.map (Value.int .i64))) (hrM : SlV w b (M.map (Value.int .i64)))
    (hp : p < w.heap.size) (h0 : w.cell? ⟨p, 0, none⟩ = some (.slice a L.length c)) (h1 : w.cell? ⟨p, 1, none⟩ = some (.slice b M.length d)) :
    Calls Try.prog 64 #[.slice (some ⟨p, 0, none⟩) 2 2] w (SlPost (L ++ M) w) := by
  obtain ⟨i0, hi, hz0, hz1, hz2⟩ := info_parts infoIntL
  obtain ⟨ba, oa, rfl, -, -⟩ := hrL.open (by simpa using hL)
  obtain ⟨bb, ob, rfl, -, -⟩ := hrM.open (by simpa using hM)
  have hl0 : 0 < L.length := List.length_pos_iff.2 hL
  have cG := impl_GrowNil (L.length + M.length) (by omega) (by omega) w
  rw [Int.natCast_add] at cG
  have HK := Lib.hid (fun w2 (h : Below w.heap.size w w2) => And.intro ((h.cell (p := ⟨p, 0, none⟩) hp).trans h0) ((h.cell (p := ⟨p, 1, none⟩) hp).trans h1))
  have HRL := Lib.hid (fun w2 (h : Below w.heap.size w w2) => newsOf (hrL.below h))
  have HRM := Lib.hid (fun w2 (h : Below w.heap.size w w2) => newsOf (hrM.below h))
  clear hrL hrM hL hM hp
  go_enter Try.func64, Try.ntmps64
  go_wp2_with fail
  go_loop [3, 11] (fun s i => (i = .int .i64 0 ∧ s = .int .i64 0) ∨ (i = .int .i64 1 ∧ s = .int .i64 (L.length : Int)) ∨ (i = .int .i64 2 ∧ s = .int .i64 ((L.length : Int) + (M.length : Int)))) (fun _ i => 2 - (intOf i).toNat)
  case atStart => exact .inl ⟨rfl, rfl⟩
  case round =>
    rcases hrel with ⟨rfl, rfl⟩ | ⟨rfl, rfl⟩ | ⟨rfl, rfl⟩
    · go_wp2_with fail
      go_round
      case rel => exact .inr (.inl ⟨rfl, by go_num⟩)
      case measure => simp [intOf]
    · have hw1 : IntKind.i64.wrap ((L.length : Int) + (M.length : Int)) = (L.length : Int) + (M.length : Int) := IntWalk.i64_in _ (by omega)
      go_wp2_with fail
      go_round
      case rel => exact .inr (.inr ⟨rfl, by go_num⟩)
      case measure => simp [intOf]
    · clear h0 h1
      go_wp2_with fail
      refine cG.mono ?_
      rintro e w1 ⟨cg, rfl, ho1, hb1⟩
      clear cG
      have HO1 := Lib.hid ho1
      clear ho1
      go_wp2_with fail
      go_loopw [6, 27] (fun v i wr => Below w.heap.size w wr ∧ ((i = .int .i64 0 ∧ wr.ownsRow w.heap.size 3 1 v 0 []) ∨ (i = .int .i64 1 ∧ wr.ownsRow w.heap.size 3 1 v L.length (L.map (Value.int .i64))) ∨ (i = .int .i64 2 ∧ wr.ownsRow w.heap.size 3 1 v (L.length + M.length) (L.map (Value.int .i64) ++ M.map (Value.int .i64))))) (fun _ i _ => 2 - (intOf i).toNat)
      case atStart => exact ⟨hb1, .inl ⟨rfl, HO1.out⟩⟩
      case round =>
        clear HO1 hb1
        obtain ⟨hbel, ⟨rfl, hown⟩ | ⟨rfl, hown⟩ | ⟨rfl, hown⟩⟩ := hrel
        · have hsz := hbel.size
          obtain ⟨h0, h1⟩ := HK.out _ hbel
          go_wp2_with (at_builtin; refine wpList_append_own _ rfl (.tmp 31) (.tmp 32) 22 rfl w.heap.size 3 i0 (Value.int .i64 0) 1 8 Try.underlying22 hi hz0 hz1 hz2 rfl (by decide) _ _ _ rfl hown ⟨ba, oa, none⟩ L.length c (L.map (Value.int .i64)) rfl (by simp) (HRL.out _ hbel) (oneInts L) (by unfold maxLen; omega) (by omega) (by omega) ?_; intro v6 w6 hown6 hg6 _)
          have hbel6 := hbel.grown hg6 hbel.size (fun j hj => (hown.lt j hj).1)
          have HO := Lib.hid hown6
          clear hown6 hg6 hown h0 h1
          go_wp2_with fail
          go_roundw
          case rel => exact ⟨hbel6, .inr (.inl ⟨rfl, by have := HO.out; simpa using this⟩)⟩
          case measure => simp [intOf]
        · have hsz := hbel.size
          obtain ⟨h0, h1⟩ := HK.out _ hbel
          go_wp2_with (at_builtin; refine wpList_append_own _ rfl (.tmp 31) (.tmp 32) 22 rfl w.heap.size 3 i0 (Value.int .i64 0) 1 8 Try.underlying22 hi hz0 hz1 hz2 rfl (by decide) _ _ _ rfl hown ⟨bb, ob, none⟩ M.length d (M.map (Value.int .i64)) rfl (by simp) (HRM.out _ hbel) (oneInts M) (by unfold maxLen; omega) (by omega) (by omega) ?_; intro v6 w6 hown6 hg6 _)
          have hbel6 := hbel.grown hg6 hbel.size (fun j hj => (hown.lt j hj).1)
          have HO := Lib.hid hown6
          clear hown6 hg6 hown h0 h1
          go_wp2_with fail
          go_roundw
          case rel => exact ⟨hbel6, .inr (.inr ⟨rfl, HO.out⟩)⟩
          case measure => simp [intOf]
        · go_wp2_with fail
          go_ret
          exact ⟨_, rfl, by rw [List.length_append, List.map_append]; exact hown, hbel⟩

end Go.Proofs.Ytekeaigdphicaaa
