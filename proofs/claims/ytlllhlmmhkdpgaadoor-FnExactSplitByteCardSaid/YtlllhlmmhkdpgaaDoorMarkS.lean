/-
  CONTRACTS of markText, markStringS and heldStringS.
-/
import Derived.Test.YtlllhlmmhkdpgaaDoorSl
import Derived.Test.YtlllhlmmhkdpgaaDoorFmt
import Derived.WalkKit
import Derived.WalkLawsBesides
import Derived.Deep.RegionHeld3
import Derived.Outline
namespace Go.Proofs.YtlllhlmmhkdpgaaDoor
open Go Go.RowKit

/-- The mark of number k. -/
def markB (k : Nat) : ByteArray := ⟨(109 :: decHead k).toArray⟩

theorem decHead_le (m : Nat) : (decHead m).length ≤ m := by
  induction m using Nat.strongRecOn with
  | _ m ih =>
    by_cases h : m = 0
    · subst h; simp [decHead_zero]
    · rw [decHead_step h, List.length_append]
      have := ih (m / 10) (by omega)
      simp; omega

set_option maxRecDepth 100000 in
set_option maxHeartbeats 400000 in
theorem markText_any (m0 : Nat) (hm : 1 ≤ m0) (hb : m0 ≤ 1000000000) (w : World) :
    Calls Tryd.prog 37 #[.int .i64 (m0 : Int)] w fun e w' => e = .returned (.string (markB m0)) ∧ Below w.heap.size w w' := by
  go_enter Tryd.func37, Tryd.ntmps37
  go_wp2
  go_loopw [0, 3] (fun n o wr => ∃ (m : Nat) (out : List UInt8), n = .int .i64 (m : Int) ∧ o = .string ⟨out.toArray⟩ ∧ out.length + m ≤ m0 ∧ decHead m ++ out = decHead m0 ∧ Below w.heap.size w wr) (fun n _ _ => (intOf n).toNat)
  case atStart => exact ⟨m0, [], rfl, rfl, Nat.le_of_eq (Nat.zero_add _), by simp, Below.refl _ _⟩
  case round =>
    obtain ⟨m, out, rfl, rfl, hle, hd, hbel⟩ := hrel
    have HD := Lib.hid hd; clear hd
    by_cases hz : m = 0
    · subst hz
      go_wp2
      go_ret
      refine ⟨?_, hbel⟩
      unfold markB
      rw [← HD.out, decHead_zero, List.nil_append]
      rfl
    · have hp : 1 ≤ m := by omega
      have hp2 : 0 < m := hp
      have kc := fun (W : World) (x : Int) => run_convert_one (P := Tryd.prog) W 22 9 5 x Tryd.underlying22 Tryd.underlying5 Tryd.underlying9
      go_wp2
      go_roundw
      case rel => exact ⟨m / 10, (48 + UInt8.ofNat (m % 10)) :: out, by go_num, str_cons _ _, by simp; omega, by rw [← HD.out, decHead_step hz, ofNat_add48]; simp, hbel.alloc hbel.size _⟩
      case measure => simp [intOf]; omega

/-- Marks in the first i cells, the rest as it was. -/
def marked (xs : List Value) (i : Nat) : List Value := (List.range i).map (fun j => Value.string (markB (j + 1))) ++ xs.drop i
theorem marked_zero (xs : List Value) : marked xs 0 = xs := by simp [marked]
theorem marked_all (xs : List Value) : marked xs xs.length = (List.range xs.length).map fun j => Value.string (markB (j + 1)) := by simp [marked]
theorem marked_set (xs : List Value) (i : Nat) (h : i < xs.length) : (marked xs i).set i (.string (markB (i + 1))) = marked xs (i + 1) := by
  unfold marked
  rw [List.set_append_right _ _ (by simp)]
  have e1 : i - ((List.range i).map (fun j => Value.string (markB (j + 1)))).length = 0 := by simp
  rw [e1, List.drop_eq_getElem_cons h, List.set_cons_zero, List.range_succ, List.map_append]
  simp
theorem marked_length (xs : List Value) (i : Nat) (h : i ≤ xs.length) : (marked xs i).length = xs.length := by simp [marked]; omega

set_option maxRecDepth 100000 in
set_option maxHeartbeats 400000 in
/-- markStringS from 1 on: each cell holds its mark. -/
theorem markStringS_any (B g n cap : Nat) (xs : List Value) (w : World) (ho : w.ownsRow B 9 1 (.slice (some ⟨g, 0, none⟩) n cap) n xs) (hn : n ≤ 1048577) :
    Calls Tryd.prog 23 #[.slice (some ⟨g, 0, none⟩) n cap, .int .i64 1] w fun e w' => e = .returned (.int .i64 ((n : Int) + 1)) ∧
      w'.ownsRow B 9 1 (.slice (some ⟨g, 0, none⟩) n cap) n ((List.range n).map fun j => Value.string (markB (j + 1))) ∧ w.grownBy w' (some g) := by
  have hxl : xs.length = n := by have := ho.1; omega
  go_enter Tryd.func23, Tryd.ntmps23
  go_wp2_with fail
  go_loopw [1, 5] (fun c i wr => ∃ k : Nat, k ≤ n ∧ i = .int .i64 (k : Int) ∧ c = .int .i64 ((k : Int) + 1) ∧ wr.ownsRow B 9 1 (.slice (some ⟨g, 0, none⟩) n cap) n (marked xs k) ∧ w.grownBy wr (some g)) (fun _ i _ => n - (intOf i).toNat)
  case atStart => exact ⟨0, Nat.zero_le _, rfl, by go_num, by rw [marked_zero]; exact ho, ⟨rfl, rfl, rfl, Nat.le_refl _, fun _ _ _ => rfl⟩⟩
  case round =>
    clear ho
    obtain ⟨k, hk, rfl, rfl, hown, hg⟩ := hrel
    by_cases hlt : k < n
    · have hown1 : ∀ w1, Below wr.heap.size wr w1 → w1.ownsRow B 9 1 (.slice (some ⟨g, 0, none⟩) n cap) n (marked xs k) := fun w1 hb => hown.kept (row := none) ⟨hb.os, hb.tape, hb.output, hb.size, fun j hj _ => hb.block j hj⟩ (.inr (by simp [Value.ownBlock]))
      have ck := markText_any (k + 1) (by omega) (by omega)
      have e1 : ((k + 1 : Nat) : Int) = (k : Int) + 1 := by omega
      rw [e1] at ck
      clear e1
      have HOW := Lib.hid hown1
      have HX := Lib.hid hxl
      have HG := Lib.hid hg
      clear hown hown1 hxl hg
      go_wp2_with fail
      refine (ck _).mono ?_
      rintro e w1 ⟨rfl, hb1⟩
      have hown2 := HOW.out w1 hb1
      have hst := hown2.stored k (.string (markB (k + 1)))
      rw [marked_set xs k (by have := HX.out; omega)] at hst
      have HS := Lib.hid hst
      obtain ⟨u, hu⟩ : ∃ u, w1.cell? ⟨g, k, none⟩ = some u := by
        rw [hown2.cellAt k (by omega)]; exact ⟨_, List.getElem?_eq_getElem (by rw [marked_length xs k (by have := HX.out; omega)]; have := HX.out; omega)⟩
      have hfz := hown2.frozenAt k
      have hgb : w.grownBy w1 (some g) := ⟨hb1.os.trans HG.out.os, hb1.tape.trans HG.out.tape, hb1.output.trans HG.out.output, Nat.le_trans HG.out.size hb1.size, fun j hj hN => (hb1.block j (Nat.lt_of_lt_of_le hj HG.out.size)).trans (HG.out.block j hj hN)⟩
      have HG2 := Lib.hid hgb
      clear hst hown2 hgb ck hb1
      go_wp2_with fail
      go_roundw
      case rel =>
        exact ⟨k + 1, by omega, by go_num, by go_num, HS.out.1, ⟨HS.out.2.os.trans HG2.out.os, HS.out.2.tape.trans HG2.out.tape, HS.out.2.output.trans HG2.out.output, Nat.le_trans HG2.out.size HS.out.2.size, fun j hj hN => (HS.out.2.block j (Nat.lt_of_lt_of_le hj HG2.out.size) hN).trans (HG2.out.block j hj hN)⟩⟩
      case measure => simp [intOf]; omega
    · obtain rfl : k = n := by omega
      have HO := Lib.hid hown
      have HX := Lib.hid hxl
      clear hown hxl
      go_wp2_with fail
      go_ret
      have h1 := HO.out
      have h2 := marked_all xs
      rw [HX.out] at h2
      rw [h2] at h1
      exact ⟨rfl, h1, hg⟩

theorem held_keep {W wr w1 : World} {b o : Nat} {v : Value} (hbs : b < W.heap.size) (h : wr.cell? ⟨b, o, none⟩ = some v ∧ Below W.heap.size W wr) (hb1 : Below wr.heap.size wr w1) : w1.cell? ⟨b, o, none⟩ = some v ∧ Below W.heap.size W w1 :=
  ⟨(hb1.cell (p := ⟨b, o, none⟩) (Nat.lt_of_lt_of_le hbs h.2.size)).trans h.1, h.2.trans (hb1.mono h.2.size)⟩

set_option maxRecDepth 100000 in
set_option maxHeartbeats 800000 in
/-- heldStringS from 1 on, where each cell holds its mark. -/
theorem heldStringS_any (n cap : Nat) (a : Option Addr) (w : World) (hr : SlV w a ((List.range n).map fun j => Value.string (markB (j + 1)))) (hn : n ≤ 1048577) :
    Calls Tryd.prog 24 #[.slice a n cap, .int .i64 1] w fun e w' => e = .returned (.int .i64 ((n : Int) + 1)) ∧ Below w.heap.size w w' := by
  go_enter Tryd.func24, Tryd.ntmps24
  go_wp2_with fail
  go_loopw [1, 5] (fun c i wr => ∃ k : Nat, k ≤ n ∧ i = .int .i64 (k : Int) ∧ c = .int .i64 ((k : Int) + 1) ∧ Below w.heap.size w wr) (fun _ i _ => n - (intOf i).toNat)
  case atStart => exact ⟨0, Nat.zero_le _, rfl, by go_num, Below.refl _ _⟩
  case round =>
    obtain ⟨k, hk, rfl, rfl, hbel⟩ := hrel
    by_cases hlt : k < n
    · obtain ⟨b, off, rfl, hbs, hc⟩ := hr.open (by intro h; rw [List.map_eq_nil_iff, List.range_eq_nil] at h; omega)
      have hcell : wr.cell? ⟨b, off + k, none⟩ = some (.string (markB (k + 1))) := by rw [hbel.cell (p := ⟨b, off + k, none⟩) hbs]; exact hc k _ (by simp [hlt])
      have ck := markText_any (k + 1) (by omega) (by omega)
      have e1 : ((k + 1 : Nat) : Int) = (k : Int) + 1 := by omega
      rw [e1] at ck
      clear e1 hc hr
      generalize markB (k + 1) = t at *
      have hi0 : (0 : Int) ≤ (k : Int) := by omega
      have hi1 : (k : Int) < (n : Int) := by omega
      have hsz := hbel.size
      go_wp2_with fail
      go_region_held3 (fun w' => w'.cell? ⟨b, off + k, none⟩ = some (.string t) ∧ Below w.heap.size w w') (first | exact ⟨hcell, hbel.drew⟩ | exact held_keep hbs (by assumption) (by assumption) | go_keep)
        (first | (go_at_call 37; refine (ck _).mono ?_; rintro e w1 ⟨rfl, hb1⟩))
      go_wp2_with fail
      go_roundw
      case rel => exact ⟨k + 1, by omega, by go_num, by go_num, by first | assumption | (rename_i h; exact h.2) | (rename_i h _; exact h.2) | (rename_i h _ _; exact h.2) | (trace_state; done)⟩
      case measure => simp [intOf]; omega
    · obtain rfl : k = n := by omega
      clear hr
      go_wp2_with fail
      go_ret
      exact ⟨rfl, hbel⟩
end Go.Proofs.YtlllhlmmhkdpgaaDoor
