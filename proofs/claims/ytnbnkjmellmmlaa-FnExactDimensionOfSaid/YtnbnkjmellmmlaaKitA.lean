/-
  THE VERIFIER's KIT: rows that came in, slices that can be read, the laws' helpers, the canonical forms.
-/
import Derived.Test.YtnbnkjmellmmlaaProg
import Derived.WalkKit
import Derived.ProofKit
import Derived.Below
import Derived.Sort.Grow
import Derived.WalkSmall
import Derived.Deep.Draws
import Derived.Deep.Matrix
import Derived.SliceStrings
import Derived.Lib.Hide
import Derived.Laws.AppendOwn
import Derived.Laws.OwnMore
import Derived.OwnWalk
import Derived.Lib.ItoaNum
import Derived.WalkLawsBesides
import Derived.Laws.BytesArg
import Derived.Outline
import Derived.BigQuiet
import Derived.Deep.QuietTactic
import Derived.Deep.RegionHeld3

/-
  WHAT EVERY LAW's FRAME OF THIS SEAT SHARES: the program's closed facts; how a slice that came in is told to a walk.
-/
namespace Go.Proofs.Ytnbnkjmellmmlaa
open Go Go.RowKit Go.ChangeShapes Go.WideShapes Go.ChangeAt Go.Sort

theorem own : ownKnob Try.prog.godebug = none := by kernel_rfl
theorem laidOut : laidOutB Try.prog = true := by kernel_rfl

/-- A SLICE OF INTEGERS THAT CAME IN: without a cell (nil, or of capacity 0), or a row of 'cap' cells, the numbers 'zs' (the first 'len' are its elements). -/
def IsRow (k : IntKind) (w : World) (a : Option Addr) (len cap : Nat) (zs : List Int) : Prop :=
  (len = 0 ∧ cap = 0 ∧ zs = []) ∨
  ∃ b off, a = some ⟨b, off, none⟩ ∧ b < w.heap.size ∧ len ≤ cap ∧ cap ≤ maxLen ∧ zs.length = cap ∧ (∀ i, i < zs.length → w.cell? ⟨b, off + i, none⟩ = some (.int k (zs.getD i 0))) ∧ ∀ n ∈ zs, (Lit.int k n).wf = true

/-- A SLICE OF STRINGS THAT CAME IN, likewise. -/
def IsStrs (w : World) (a : Option Addr) (len cap : Nat) (ss : List ByteArray) : Prop :=
  (len = 0 ∧ cap = 0 ∧ ss = []) ∨
  ∃ b off, a = some ⟨b, off, none⟩ ∧ b < w.heap.size ∧ len ≤ cap ∧ cap ≤ maxLen ∧ ss.length = cap ∧ (∀ i, i < ss.length → w.cell? ⟨b, off + i, none⟩ = some (.string (ss.getD i ByteArray.empty))) ∧ ∀ s ∈ ss, s.size ≤ maxLen

theorem lt_of_cell' {w : World} {b o : Nat} {v : Value} (h : w.cell? ⟨b, o, none⟩ = some v) : b < w.heap.size := by
  rcases Nat.lt_or_ge b w.heap.size with h1 | h1
  · exact h1
  · simp [World.cell?, Array.getElem?_eq_none h1] at h

theorem bcell {W w1 : World} (hb : Below W.heap.size W w1) : (∀ b o, b < W.heap.size → w1.cell? ⟨b, o, none⟩ = W.cell? ⟨b, o, none⟩) ∧ (∀ b o, b < W.heap.size → w1.frozen? ⟨b, o, none⟩ = W.frozen? ⟨b, o, none⟩) :=
  ⟨fun b o h => hb.cell (p := ⟨b, o, none⟩) h, fun b o h => hb.frozen (p := ⟨b, o, none⟩) h⟩

theorem isRow_open {H : Type} {enc : TypeId × Value → H} {k : IntKind} {W : World} {t e : TypeId} {fuel : Nat} {a : Option Addr} {len cap : Nat} {x : DataW H × List MemPlace}
    (ht : Try.prog.underlying t = some (.slice e)) (he : Try.prog.underlying e = some (.int k)) (hc : Try.prog.cellsOf e = 1)
    (h : DataW.trod enc Try.prog W 0 (fun _ => true) true fuel t (Value.cells (.slice a len cap)).toList = some x) : ∃ zs, IsRow k W a len cap zs := by
  rcases open_ints ht he hc h with ⟨hcs, _⟩ | ⟨p, l, c, zs, hcs, _, hl, hm, hz, _, hcell, hwz⟩
  · simp [Value.cells] at hcs
    obtain ⟨rfl, rfl, rfl⟩ := hcs
    exact ⟨[], .inl ⟨rfl, rfl, rfl⟩⟩
  · simp [Value.cells] at hcs
    obtain ⟨rfl, rfl, rfl⟩ := hcs
    have hz : zs.length = cap := by simpa using hz
    by_cases h0 : cap = 0
    · subst h0
      obtain rfl : zs = [] := List.length_eq_zero_iff.1 hz
      exact ⟨[], .inl ⟨by omega, rfl, rfl⟩⟩
    · obtain ⟨b, off, spot⟩ := p
      have hc0 := hcell 0 (by omega)
      have hspot : spot = none := by simpa [Addr.add] using World.cell?_spot hc0
      subst hspot
      have hadd : ∀ i, (⟨b, off, none⟩ : Addr).add i = ⟨b, off + i, none⟩ := fun i => by unfold Addr.add; split <;> simp_all
      exact ⟨zs, .inr ⟨b, off, rfl, lt_of_cell' (by rw [← hadd 0]; exact hc0), hl, hm, hz, (fun i hi => by rw [← hadd i]; exact hcell i hi), hwz⟩⟩

theorem isStrs_open {H : Type} {enc : TypeId × Value → H} {W : World} {t e : TypeId} {fuel : Nat} {a : Option Addr} {len cap : Nat} {x : DataW H × List MemPlace}
    (ht : Try.prog.underlying t = some (.slice e)) (he : Try.prog.underlying e = some .string) (hc : Try.prog.cellsOf e = 1)
    (h : DataW.trod enc Try.prog W 0 (fun _ => true) true fuel t (Value.cells (.slice a len cap)).toList = some x) : ∃ ss, IsStrs W a len cap ss := by
  rcases open_strings ht he hc h with ⟨hcs, _⟩ | ⟨p, l, c, ss, hcs, _, hl, hm, hz, _, hcell, hwz⟩
  · simp [Value.cells] at hcs
    obtain ⟨rfl, rfl, rfl⟩ := hcs
    exact ⟨[], .inl ⟨rfl, rfl, rfl⟩⟩
  · simp [Value.cells] at hcs
    obtain ⟨rfl, rfl, rfl⟩ := hcs
    have hz : ss.length = cap := by simpa using hz
    by_cases h0 : cap = 0
    · subst h0
      obtain rfl : ss = [] := List.length_eq_zero_iff.1 hz
      exact ⟨[], .inl ⟨by omega, rfl, rfl⟩⟩
    · obtain ⟨b, off, spot⟩ := p
      have hc0 := hcell 0 (by omega)
      have hspot : spot = none := by simpa [Addr.add] using World.cell?_spot hc0
      subst hspot
      have hadd : ∀ i, (⟨b, off, none⟩ : Addr).add i = ⟨b, off + i, none⟩ := fun i => by unfold Addr.add; split <;> simp_all
      exact ⟨ss, .inr ⟨b, off, rfl, lt_of_cell' (by rw [← hadd 0]; exact hc0), hl, hm, hz, (fun i hi => by rw [← hadd i]; exact hcell i hi), hwz⟩⟩

theorem below_grow {w : World} (q : Nat) (os : Array Obj) : Below w.heap.size w (grow (w.drewN q) os) :=
  ⟨rfl, rfl, rfl, by first | (simp [grow]; done) | (simp [grow]; omega), fun i hi => by
    show (w.heap ++ os)[i]? = w.heap[i]?
    simp [Array.getElem?_append, hi]⟩

/-- A witness's world: block g holds these cells. -/
def layAt (w : World) (g : Nat) (cells : Array Value) : World :=
  { w with heap := w.heap.modify g fun
      | .cells _ t frozen => .cells cells t frozen
      | o => o }
end Go.Proofs.Ytnbnkjmellmmlaa

/-
  A SLICE THAT CAN BE READ: what contracts on slices ask and give. No function of the program in this text.
-/
namespace Go.Proofs.Ytnbnkjmellmmlaa
open Go Go.RowKit

/-- The slice's first cells hold the values xs (where there is one at all). -/
def SlV (w : World) (a : Option Addr) (xs : List Value) : Prop :=
  xs = [] ∨ ∃ b off, a = some ⟨b, off, none⟩ ∧ b < w.heap.size ∧ ∀ (i : Nat) (u : Value), xs[i]? = some u → w.cell? ⟨b, off + i, none⟩ = some u

theorem SlV.below {w w' : World} {a : Option Addr} {xs : List Value} (h : SlV w a xs) (hb : Below w.heap.size w w') : SlV w' a xs := by
  rcases h with h | ⟨b, off, ha, hlt, hc⟩
  · exact .inl h
  · exact .inr ⟨b, off, ha, Nat.lt_of_lt_of_le hlt hb.size, fun i u hi => by rw [hb.cell (p := ⟨b, off + i, none⟩) hlt]; exact hc i u hi⟩

theorem SlV.nil (w : World) (a : Option Addr) : SlV w a [] := .inl rfl

theorem SlV.open {w : World} {a : Option Addr} {xs : List Value} (h : SlV w a xs) (hne : xs ≠ []) :
    ∃ b off, a = some ⟨b, off, none⟩ ∧ b < w.heap.size ∧ ∀ (i : Nat) (u : Value), xs[i]? = some u → w.cell? ⟨b, off + i, none⟩ = some u := by
  rcases h with h | h
  · exact absurd h hne
  · exact h

/-- An owned row can be read. -/
theorem SlV.of_owns {w : World} {base : Nat} {e : TypeId} {v : Value} {n : Nat} {xs : List Value} (h : w.ownsRow base e 1 v n xs) :
    ∃ a cap, v = .slice a n cap ∧ n = xs.length ∧ n ≤ cap ∧ SlV w a xs ∧ (xs = [] ∨ ∃ g, a = some ⟨g, 0, none⟩ ∧ base ≤ g) := by
  obtain ⟨hl, h⟩ := h
  have hn : n = xs.length := by omega
  rcases h with ⟨rfl, rfl⟩ | ⟨g, cap, cur, rfl, hb, hg, hnc, hcm, hcs, htk⟩
  · have : xs = [] := List.eq_nil_of_length_eq_zero (by omega)
    exact ⟨none, 0, rfl, hn, Nat.le_refl _, .inl this, .inl this⟩
  · refine ⟨some ⟨g, 0, none⟩, cap, rfl, hn, hnc, .inr ⟨g, 0, rfl, ?_, fun i u hi => ?_⟩, .inr ⟨g, rfl, hb⟩⟩
    · rcases Nat.lt_or_ge g w.heap.size with h1 | h1
      · exact h1
      · rw [Array.getElem?_eq_none h1] at hg; cases hg
    · rw [cell_of_row w g (0 + i) cur e (0, 0) hg, Nat.zero_add, ← hi, ← htk, List.getElem?_take, if_pos]
      · simp
      · have := (List.getElem?_eq_some_iff.1 hi).1
        omega

/-- A row of integers, of strings, that came in. -/
theorem SlV.of_row {k : IntKind} {w : World} {a : Option Addr} {len cap : Nat} {zs : List Int} (h : IsRow k w a len cap zs) : SlV w a ((zs.take len).map (Value.int k)) ∧ (zs.take len).length = len := by
  rcases h with ⟨rfl, rfl, rfl⟩ | ⟨b, off, rfl, hlt, hl, hm, hz, hc, hw⟩
  · exact ⟨.inl rfl, rfl⟩
  · refine ⟨.inr ⟨b, off, rfl, hlt, fun i u hi => ?_⟩, by rw [List.length_take]; omega⟩
    rw [List.getElem?_map, Option.map_eq_some_iff] at hi
    obtain ⟨z, hz1, rfl⟩ := hi
    rw [List.getElem?_take] at hz1
    split at hz1
    · rename_i hi2
      have h1 := (List.getElem?_eq_some_iff.1 hz1).1
      rw [hc i h1, List.getD, hz1]; rfl
    · cases hz1
theorem SlV.of_strs {w : World} {a : Option Addr} {len cap : Nat} {ss : List ByteArray} (h : IsStrs w a len cap ss) : SlV w a ((ss.take len).map Value.string) ∧ (ss.take len).length = len ∧ ∀ s ∈ ss.take len, s.size ≤ maxLen := by
  rcases h with ⟨rfl, rfl, rfl⟩ | ⟨b, off, rfl, hlt, hl, hm, hz, hc, hw⟩
  · exact ⟨.inl rfl, rfl, by simp⟩
  · refine ⟨.inr ⟨b, off, rfl, hlt, fun i u hi => ?_⟩, by rw [List.length_take]; omega, fun s hs => hw s (List.mem_of_mem_take hs)⟩
    rw [List.getElem?_map, Option.map_eq_some_iff] at hi
    obtain ⟨z, hz1, rfl⟩ := hi
    rw [List.getElem?_take] at hz1
    split at hz1
    · rename_i hi2
      have h1 := (List.getElem?_eq_some_iff.1 hz1).1
      rw [hc i h1, List.getD, hz1]; rfl
    · cases hz1

/-- k cells are filled, the others still zero. -/
def filled (xs : List Value) (z : Value) (k : Nat) : List Value := xs.take k ++ List.replicate (xs.length - k) z
theorem filled_zero (xs : List Value) (z : Value) : filled xs z 0 = List.replicate xs.length z := by simp [filled]
theorem filled_all (xs : List Value) (z : Value) : filled xs z xs.length = xs := by simp [filled]
theorem filled_set (xs : List Value) (z u : Value) (k : Nat) (hu : xs[k]? = some u) : (filled xs z k).set k u = filled xs z (k + 1) := by
  have hk := (List.getElem?_eq_some_iff.1 hu).1
  unfold filled
  rw [List.set_append_right _ _ (by simp; omega)]
  have e1 : k - (xs.take k).length = 0 := by simp; omega
  have e2 : xs.length - k = (xs.length - (k + 1)) + 1 := by omega
  rw [e1, e2, List.replicate_succ, List.set_cons_zero, List.take_add_one, hu]
  simp
end Go.Proofs.Ytnbnkjmellmmlaa

/-
  PLAIN LEMMAS: the decimal numeral (Lib.decDigits, Lib.itoa) as the reference's loop builds it, digit by digit from the right. No program in this text.
-/
namespace Go.Proofs.Ytnbnkjmellmmlaa
open Go

/-- What is still to be written ahead of the digits: nothing at 0. -/
def decHead (m : Nat) : List UInt8 := if m = 0 then [] else Lib.decDigits m

theorem decHead_zero : decHead 0 = [] := rfl
theorem decHead_pos {m : Nat} (h : m ≠ 0) : decHead m = Lib.decDigits m := by unfold decHead; rw [if_neg h]
/-- One step of the loop: the last digit. -/
theorem decHead_step {m : Nat} (h : m ≠ 0) : decHead m = decHead (m / 10) ++ [UInt8.ofNat (48 + m % 10)] := by
  rw [decHead_pos h, Lib.decDigits]
  by_cases h10 : m < 10
  · rw [dif_pos h10]
    have : m / 10 = 0 := by omega
    rw [this, decHead_zero, Nat.mod_eq_of_lt h10]; rfl
  · rw [dif_neg h10, decHead_pos (by omega)]

theorem itoa_zero : Lib.itoa 0 = [48] := by
  unfold Lib.itoa; rw [if_neg (by decide)]; show Lib.decDigits 0 = [48]; rw [Lib.decDigits, dif_pos (by decide)]; rfl
theorem itoa_pos {m : Nat} (h : m ≠ 0) : Lib.itoa (m : Int) = decHead m := by
  unfold Lib.itoa; rw [if_neg (by omega), decHead_pos h]; rfl
theorem itoa_neg {m : Nat} (h : m ≠ 0) : Lib.itoa (-(m : Int)) = 45 :: decHead m := by
  unfold Lib.itoa; rw [if_pos (by omega), decHead_pos h, Int.natAbs_neg]; rfl

theorem tmod10 (m : Nat) : (-(m : Int)).tmod 10 = -((m % 10 : Nat) : Int) := by
  rw [Int.neg_tmod]; rfl
theorem tdiv10 (m : Nat) : (-(m : Int)).tdiv 10 = -((m / 10 : Nat) : Int) := by
  rw [Int.neg_tdiv]; rfl
end Go.Proofs.Ytnbnkjmellmmlaa

/-
  CONTRACT of the reference's FormatInt: it returns the decimal numeral of its argument.
-/
namespace Go.Proofs.Ytnbnkjmellmmlaa
open Go Go.RowKit

/-- 'string([]byte{x})': the conversion of a new slice of one byte. -/
theorem run_convert_one {P : Program} (W : World) (src dst e : TypeId) (x : Int) (hs : P.underlying src = some (.slice e)) (he : P.underlying e = some (.int .u8)) (hd : P.underlying dst = some .string) :
    (convert src dst (.slice (some ⟨W.heap.size, 0, none⟩) 1 1)).run P (W.alloc (.cells #[.int .u8 x] e)) = .ok (.string ⟨#[UInt8.ofNat x.toNat]⟩) (W.alloc (.cells #[.int .u8 x] e)) := by
  have h := run_convert_bytes_arg (P := P) (W.alloc (.cells #[.int .u8 x] e)) src e hs he W.heap.size 0 1 1 [x] rfl (fun i hi => by
    obtain rfl : i = 0 := by omega
    simp) dst hd
  rw [h]; rfl

theorem str_cons (x : UInt8) (l : List UInt8) : Value.string ((⟨#[x]⟩ : ByteArray) ++ ⟨l.toArray⟩) = .string ⟨(x :: l).toArray⟩ := by
  congr 1
theorem ofNat_add48 (n : Nat) : UInt8.ofNat (48 + n) = 48 + UInt8.ofNat n := by
  simp [UInt8.ofNat_add]

theorem ret_str {a b : List UInt8} (h : a = b) : Ending.returned (.string ⟨a.toArray⟩) = .returned (.string ⟨b.toArray⟩) := by rw [h]




end Go.Proofs.Ytnbnkjmellmmlaa

/-
  CONTRACT of the laws' own 'big'.
-/
namespace Go.Proofs.Ytnbnkjmellmmlaa
open Go Go.RowKit

theorem row_maxLen {k : IntKind} {W : World} {a : Option Addr} {len cap : Nat} {zs : List Int} (h : IsRow k W a len cap zs) : len ≤ maxLen := by
  rcases h with ⟨rfl, -, -⟩ | ⟨_, _, _, _, h1, h2, _⟩
  · exact Nat.zero_le _
  · omega
end Go.Proofs.Ytnbnkjmellmmlaa

/-
  CONTRACTS of the laws' own sameInts and big in the form of fnwalk.py.
-/
namespace Go.Proofs.Ytnbnkjmellmmlaa
open Go Go.RowKit



end Go.Proofs.Ytnbnkjmellmmlaa

/-
  CONTRACTS of the laws' helpers toStringS and eqStringS.
-/
namespace Go.Proofs.Ytnbnkjmellmmlaa
open Go Go.RowKit

theorem infoStr : (Try.prog.info? 9).map (fun i => (i.zero, i.size, i.bytes)) = some (some (Value.string ByteArray.empty), 1, 16) := by kernel_rfl


end Go.Proofs.Ytnbnkjmellmmlaa

/-
  CONTRACTS of the laws' helpers toIntS and eqIntS.
-/
namespace Go.Proofs.Ytnbnkjmellmmlaa
open Go Go.RowKit

theorem infoInt : (Try.prog.info? 3).map (fun i => (i.zero, i.size, i.bytes)) = some (some (Value.int .i64 0), 1, 8) := by kernel_rfl

set_option maxRecDepth 100000 in
set_option maxHeartbeats 400000 in
/-- toIntS: a new slice with the same elements. -/
theorem toIntS_any (L : List Int) (a : Option Addr) (cap : Nat) (w : World) (hr : SlV w a (L.map (Value.int .i64))) (hb : L.length ≤ 1048576) :
    Calls Try.prog 16 #[.slice a L.length cap] w fun e w' => e = .returned (.slice (some ⟨w.heap.size, 0, none⟩) L.length L.length) ∧
      w'.ownsRow w.heap.size 3 1 (.slice (some ⟨w.heap.size, 0, none⟩) L.length L.length) L.length (L.map (Value.int .i64)) ∧ Below w.heap.size w w' := by
  obtain ⟨i0, hi, hz0, hz1, hz2⟩ := info_parts infoInt
  go_enter Try.func16, Try.ntmps16
  go_wp2_with (at_make; refine wpList_make_full _ rfl _ _ 22 rfl w.heap.size 3 i0 (Value.int .i64 0) 1 Try.underlying22 hi hz0 hz1 .i64 .i64 _ _ L.length rfl rfl rfl rfl (by rw [hz2]; omega) (by unfold maxLen; omega) (Nat.le_refl _) ?_; intro w1 hown hgrow)
  have hbel : Below w.heap.size w w1 := (Below.refl _ w).grown hgrow (Nat.le_refl _) (fun k h => by cases h)
  have hown' : w1.ownsRow w.heap.size 3 1 (.slice (some ⟨w.heap.size, 0, none⟩) L.length L.length) L.length (filled (L.map (Value.int .i64)) (Value.int .i64 0) 0) := by
    rw [filled_zero, List.length_map]
    have e : (madeCells (Value.int .i64 0).cells (L.length * 1)).toList = List.replicate L.length (Value.int .i64 0) := by rw [Nat.mul_one]; exact toList_madeCells_one _ _
    rw [← e]; exact hown
  clear hown hgrow hi hz0 hz1 hz2
  go_wp2_with fail
  go_loopw [4] (fun i wr => ∃ k : Nat, k ≤ L.length ∧ i = .int .i64 (k : Int) ∧ wr.ownsRow w.heap.size 3 1 (.slice (some ⟨w.heap.size, 0, none⟩) L.length L.length) L.length (filled (L.map (Value.int .i64)) (Value.int .i64 0) k) ∧ Below w.heap.size w wr) (fun i _ => L.length - (intOf i).toNat)
  case atStart => exact ⟨0, Nat.zero_le _, rfl, hown', hbel⟩
  case round =>
    clear hown' hbel
    obtain ⟨k, hk, rfl, hown, hbel⟩ := hrel
    by_cases hlt : k < L.length
    · obtain ⟨b, off, rfl, hbs, hc⟩ := hr.open (by intro h; rw [List.map_eq_nil_iff] at h; subst h; simp at hlt)
      have hx : (L.map (Value.int .i64))[k]? = some ((Value.int .i64) L[k]) := by simp [hlt]
      have hcell : wr.cell? ⟨b, off + k, none⟩ = some ((Value.int .i64) L[k]) := by rw [hbel.cell (p := ⟨b, off + k, none⟩) hbs]; exact hc k _ hx
      have hst := hown.stored k ((Value.int .i64) L[k])
      rw [filled_set _ _ _ _ hx] at hst
      have HS := Lib.hid hst
      have hlen : (filled (L.map (Value.int .i64)) (Value.int .i64 0) k).length = L.length := by have := hown.1; omega
      obtain ⟨u, hu⟩ : ∃ u, wr.cell? ⟨w.heap.size, k, none⟩ = some u := by
        rw [hown.cellAt k (by omega)]; exact ⟨_, List.getElem?_eq_getElem (by omega)⟩
      have hfz := hown.frozenAt k
      have HB := Lib.hid (hbel.setCell (p := ⟨w.heap.size, k, none⟩) (Nat.le_refl _) ((Value.int .i64) L[k]))
      clear hst hown hlen hx hc hr hbel
      go_wp2
      go_roundw
      case rel => exact ⟨k + 1, by omega, by go_num, HS.out.1, HB.out⟩
      case measure => simp [intOf]; omega
    · obtain rfl : k = L.length := by omega
      have HO := Lib.hid hown
      clear hown hr
      go_wp2
      go_ret
      have h2 := HO.out
      have e := filled_all (L.map (Value.int .i64)) (Value.int .i64 0)
      rw [List.length_map] at e
      rw [e] at h2
      exact ⟨rfl, h2, hbel⟩

set_option maxRecDepth 100000 in
set_option maxHeartbeats 400000 in
/-- eqIntS: whether the two lists are equal. -/
theorem eqIntS_any (L M : List Int) (a c : Option Addr) (cap cap2 : Nat) (w : World) (hr : SlV w a (L.map (Value.int .i64))) (hs : SlV w c (M.map (Value.int .i64))) (hb : L.length ≤ 4611686018427387904) (hb2 : M.length ≤ 4611686018427387904) :
    Calls Try.prog 18 #[.slice a L.length cap, .slice c M.length cap2] w fun e w' => e = .returned (.bool (decide (L = M))) ∧ Below w.heap.size w w' := by
  by_cases hlen : L.length = M.length
  · have hne : ((L.length : Int) != (M.length : Int)) = false := by simp [hlen]
    have HL := Lib.hid hlen
    clear hlen
    go_enter Try.func18, Try.ntmps18
    go_wp2_with fail
    go_loopw [5] (fun i wr => ∃ k : Nat, k ≤ L.length ∧ i = .int .i64 (k : Int) ∧ (∀ j, j < k → L[j]? = M[j]?) ∧ Below w.heap.size w wr) (fun i _ => L.length - (intOf i).toNat)
    case atStart => exact ⟨0, Nat.zero_le _, rfl, fun j h => by omega, Below.refl _ _⟩
    case round =>
      obtain ⟨k, hk, rfl, heq, hbel⟩ := hrel
      have HE := Lib.hid heq
      clear heq
      by_cases hlt : k < L.length
      · have hltM : k < M.length := by have := HL.out; omega
        obtain ⟨b, off, rfl, hbs, hc⟩ := hr.open (by intro h; rw [List.map_eq_nil_iff] at h; subst h; simp at hlt)
        obtain ⟨b2, off2, rfl, hbs2, hc2⟩ := hs.open (by intro h; rw [List.map_eq_nil_iff] at h; subst h; simp at hltM)
        have hcell : wr.cell? ⟨b, off + k, none⟩ = some ((Value.int .i64) L[k]) := by rw [hbel.cell (p := ⟨b, off + k, none⟩) hbs]; exact hc k _ (by simp [hlt])
        have hcell2 : wr.cell? ⟨b2, off2 + k, none⟩ = some ((Value.int .i64) M[k]) := by rw [hbel.cell (p := ⟨b2, off2 + k, none⟩) hbs2]; exact hc2 k _ (by simp [hltM])
        clear hc hc2 hr hs
        have hx0 : (0 : Int) ≤ (k : Int) := by omega
        have hx1 : (k : Int) < (L.length : Int) := by omega
        have hx2 : (k : Int) < (M.length : Int) := by omega
        by_cases he : L[k] = M[k]
        · have HEQ := Lib.hid (show L[k]? = M[k]? by rw [List.getElem?_eq_getElem hlt, List.getElem?_eq_getElem hltM, he])
          rw [← he] at hcell2
          clear he
          generalize L[k] = x at *
          go_wp2_with fail
          go_quiet (fail)
          go_wp2_with fail
          go_roundw
          case rel => exact ⟨k + 1, by omega, by go_num, (fun j hj => by
            by_cases h : j < k
            · exact HE.out j h
            · obtain rfl : j = k := by omega
              exact HEQ.out), by first | exact hbel | exact below_drewN hbel _⟩
          case measure => simp [intOf]; omega
        · have HNE := Lib.hid (decide_eq_false (p := L = M) (fun h => he (by subst h; rfl)))
          have hne2 : (L[k] != M[k]) = true := by rw [bne_iff_ne]; exact he
          clear he
          generalize L[k] = x at *
          generalize M[k] = y at *
          go_wp2_with fail
          go_quiet (fail)
          go_wp2_with fail
          go_ret
          exact ⟨by rw [HNE.out]; rfl, by first | exact hbel | exact below_drewN hbel _⟩
      · obtain rfl : k = L.length := by omega
        have HEQ := Lib.hid (decide_eq_true (p := L = M) (by
          apply List.ext_getElem? 
          intro j
          by_cases hj : j < L.length
          · exact HE.out j hj
          · rw [List.getElem?_eq_none (by omega), List.getElem?_eq_none (by have := HL.out; omega)]))
        clear hr hs
        go_wp2_with fail
        go_ret
        exact ⟨by rw [HEQ.out]; rfl, hbel⟩
  · have hne : ((L.length : Int) != (M.length : Int)) = true := by simp; omega
    have HNE := Lib.hid (decide_eq_false (p := L = M) (fun h => hlen (by rw [h])))
    clear hlen
    go_enter Try.func18, Try.ntmps18
    go_wp2_with fail
    go_ret
    exact ⟨by rw [HNE.out]; rfl, Below.refl _ _⟩
end Go.Proofs.Ytnbnkjmellmmlaa

/-
  CONTRACTS of markText, markStringS and heldStringS.
-/
namespace Go.Proofs.Ytnbnkjmellmmlaa
open Go Go.RowKit

/-- The mark of number k. -/
def markB (k : Nat) : ByteArray := ⟨(109 :: decHead k).toArray⟩

theorem decHead_le (m : Nat) : (decHead m).length ≤ m := by
  induction m using Nat.strongRecOn with
  | _ m ih =>
    by_cases h : m = 0
    · subst h; simp [decHead_zero]
    · rw [decHead_step h, List.length_append]
      have := ih (m / 10) (by omega)
      simp; omega


/-- Marks in the first i cells, the rest as it was. -/
def marked (xs : List Value) (i : Nat) : List Value := (List.range i).map (fun j => Value.string (markB (j + 1))) ++ xs.drop i
theorem marked_zero (xs : List Value) : marked xs 0 = xs := by simp [marked]
theorem marked_all (xs : List Value) : marked xs xs.length = (List.range xs.length).map fun j => Value.string (markB (j + 1)) := by simp [marked]
theorem marked_set (xs : List Value) (i : Nat) (h : i < xs.length) : (marked xs i).set i (.string (markB (i + 1))) = marked xs (i + 1) := by
  unfold marked
  rw [List.set_append_right _ _ (by simp)]
  have e1 : i - ((List.range i).map (fun j => Value.string (markB (j + 1)))).length = 0 := by simp
  rw [e1, List.drop_eq_getElem_cons h, List.set_cons_zero, List.range_succ, List.map_append]
  simp
theorem marked_length (xs : List Value) (i : Nat) (h : i ≤ xs.length) : (marked xs i).length = xs.length := by simp [marked]; omega


theorem held_keep {W wr w1 : World} {b o : Nat} {v : Value} (hbs : b < W.heap.size) (h : wr.cell? ⟨b, o, none⟩ = some v ∧ Below W.heap.size W wr) (hb1 : Below wr.heap.size wr w1) : w1.cell? ⟨b, o, none⟩ = some v ∧ Below W.heap.size W w1 :=
  ⟨(hb1.cell (p := ⟨b, o, none⟩) (Nat.lt_of_lt_of_le hbs h.2.size)).trans h.1, h.2.trans (hb1.mono h.2.size)⟩

end Go.Proofs.Ytnbnkjmellmmlaa

/-
  CONTRACTS of the laws' markIntS and heldIntS: k0, k0 + 1, .. written into a row of ints, and read again.
-/
namespace Go.Proofs.Ytnbnkjmellmmlaa
open Go Go.RowKit

def marksK (k0 : Int) (n : Nat) : List Value := (List.range n).map fun (j : Nat) => Value.int .i64 (k0 + (j : Int))
def markedK (k0 : Int) (xs : List Value) (i : Nat) : List Value := marksK k0 i ++ xs.drop i
theorem markedK_zero (k0 : Int) (xs : List Value) : markedK k0 xs 0 = xs := by simp [markedK, marksK]
theorem markedK_all (k0 : Int) (xs : List Value) : markedK k0 xs xs.length = marksK k0 xs.length := by simp [markedK]
theorem marksK_length (k0 : Int) (n : Nat) : (marksK k0 n).length = n := by simp [marksK]
theorem markedK_set (k0 : Int) (xs : List Value) (i : Nat) (h : i < xs.length) : (markedK k0 xs i).set i (.int .i64 (k0 + (i : Int))) = markedK k0 xs (i + 1) := by
  unfold markedK
  rw [List.set_append_right _ _ (by rw [marksK_length]; exact Nat.le_refl _)]
  have e1 : i - (marksK k0 i).length = 0 := by rw [marksK_length]; omega
  rw [e1, List.drop_eq_getElem_cons h, List.set_cons_zero]
  have e2 : marksK k0 (i + 1) = marksK k0 i ++ [.int .i64 (k0 + (i : Int))] := by unfold marksK; rw [List.range_succ, List.map_append]; rfl
  rw [e2, List.append_assoc]; rfl
theorem markedK_length (k0 : Int) (xs : List Value) (i : Nat) (h : i ≤ xs.length) : (markedK k0 xs i).length = xs.length := by
  unfold markedK; rw [List.length_append, marksK_length, List.length_drop]; omega

set_option maxRecDepth 100000 in
set_option maxHeartbeats 400000 in
theorem markIntS_some (k0 : Int) (B g n cap : Nat) (xs : List Value) (w : World) (ho : w.ownsRow B 3 1 (.slice (some ⟨g, 0, none⟩) n cap) n xs) (hn : n ≤ 4611686018427387904) (h0 : 0 ≤ k0) (h1 : k0 ≤ 1152921504606846976) :
    Calls Try.prog 28 #[.slice (some ⟨g, 0, none⟩) n cap, .int .i64 k0] w fun e w' => e = .returned (.int .i64 (k0 + (n : Int))) ∧
      w'.ownsRow B 3 1 (.slice (some ⟨g, 0, none⟩) n cap) n (marksK k0 n) ∧ w.grownBy w' (some g) := by
  have hxl : xs.length = n := by have := ho.1; omega
  go_enter Try.func28, Try.ntmps28
  go_wp2_with fail
  go_loopw [1, 5] (fun c i wr => ∃ k : Nat, k ≤ n ∧ i = .int .i64 (k : Int) ∧ c = .int .i64 (k0 + (k : Int)) ∧ wr.ownsRow B 3 1 (.slice (some ⟨g, 0, none⟩) n cap) n (markedK k0 xs k) ∧ w.grownBy wr (some g)) (fun _ i _ => n - (intOf i).toNat)
  case atStart => exact ⟨0, Nat.zero_le _, rfl, by go_num, by rw [markedK_zero]; exact ho, ⟨rfl, rfl, rfl, Nat.le_refl _, fun _ _ _ => rfl⟩⟩
  case round =>
    clear ho
    obtain ⟨k, hk, rfl, rfl, hown, hg⟩ := hrel
    have HX := Lib.hid hxl
    have HG := Lib.hid hg
    by_cases hlt : k < n
    · have hst := hown.stored k (.int .i64 (k0 + (k : Int)))
      rw [markedK_set k0 xs k (by omega)] at hst
      have HS := Lib.hid hst
      obtain ⟨u, hu⟩ : ∃ u, wr.cell? ⟨g, k, none⟩ = some u := by
        rw [hown.cellAt k (by omega)]; exact ⟨_, List.getElem?_eq_getElem (by rw [markedK_length k0 xs k (by omega)]; omega)⟩
      have hfz := hown.frozenAt k
      clear hst hown hxl hg
      go_wp2_with fail
      go_roundw
      case rel =>
        exact ⟨k + 1, by omega, by go_num, by go_num, HS.out.1, ⟨HS.out.2.os.trans HG.out.os, HS.out.2.tape.trans HG.out.tape, HS.out.2.output.trans HG.out.output, Nat.le_trans HG.out.size HS.out.2.size, fun j hj hN => (HS.out.2.block j (Nat.lt_of_lt_of_le hj HG.out.size) hN).trans (HG.out.block j hj hN)⟩⟩
      case measure => simp [intOf]; omega
    · obtain rfl : k = n := by omega
      have HO := Lib.hid hown
      clear hown hxl hg
      go_wp2_with fail
      go_ret
      have h1 := HO.out
      have h2 := markedK_all k0 xs
      rw [HX.out] at h2
      rw [h2] at h1
      exact ⟨rfl, h1, HG.out⟩

set_option maxRecDepth 100000 in
theorem markIntS_nil (k0 : Int) (w : World) :
    Calls Try.prog 28 #[.slice none 0 0, .int .i64 k0] w fun e w' => e = .returned (.int .i64 k0) ∧ w' = w := by
  go_enter Try.func28, Try.ntmps28
  go_wp2_with fail
  go_loop [1, 5] (fun c i => i = .int .i64 0 ∧ c = .int .i64 k0) (fun _ i => (intOf i).toNat)
  case atStart => exact ⟨rfl, rfl⟩
  case round =>
    obtain ⟨rfl, rfl⟩ := hrel
    go_wp2_with fail
    go_ret
    exact ⟨rfl, rfl⟩

/-- markIntS from k0 on over any row that the callers own, a nil slice too. -/
theorem markIntS_any (k0 : Int) (B n : Nat) (v : Value) (xs : List Value) (w : World) (ho : w.ownsRow B 3 1 v n xs) (hn : n ≤ 4611686018427387904) (h0 : 0 ≤ k0) (h1 : k0 ≤ 1152921504606846976) :
    Calls Try.prog 28 #[v, .int .i64 k0] w fun e w' => e = .returned (.int .i64 (k0 + (n : Int))) ∧
      w'.ownsRow B 3 1 v n (marksK k0 n) ∧ w.grownBy w' v.ownBlock := by
  have ho2 := ho
  obtain ⟨hx, ⟨rfl, rfl⟩ | ⟨g, cap, cur, rfl, g1, g2, g3⟩⟩ := ho
  · refine (markIntS_nil k0 w).mono ?_
    rintro e w' ⟨rfl, rfl⟩
    exact ⟨by simp, ⟨rfl, .inl ⟨rfl, rfl⟩⟩, ⟨rfl, rfl, rfl, Nat.le_refl _, fun _ _ _ => rfl⟩⟩
  · exact markIntS_some k0 B g n cap xs w ho2 hn h0 h1

set_option maxRecDepth 100000 in
set_option maxHeartbeats 400000 in
/-- heldIntS from k0 on, where each cell holds its mark. -/
theorem heldIntS_any (k0 : Int) (n cap : Nat) (a : Option Addr) (w : World) (hr : SlV w a (marksK k0 n)) (hn : n ≤ 4611686018427387904) (h0 : 0 ≤ k0) (h1 : k0 ≤ 1152921504606846976) :
    Calls Try.prog 37 #[.slice a n cap, .int .i64 k0] w fun e w' => e = .returned (.int .i64 (k0 + (n : Int))) ∧ w' = w := by
  go_enter Try.func37, Try.ntmps37
  go_wp2_with fail
  go_loop [1, 5] (fun c i => ∃ k : Nat, k ≤ n ∧ i = .int .i64 (k : Int) ∧ c = .int .i64 (k0 + (k : Int))) (fun _ i => n - (intOf i).toNat)
  case atStart => exact ⟨0, Nat.zero_le _, rfl, by go_num⟩
  case round =>
    obtain ⟨k, hk, rfl, rfl⟩ := hrel
    by_cases hlt : k < n
    · obtain ⟨b, off, rfl, hbs, hc⟩ := hr.open (by intro h; have := marksK_length k0 n; rw [h] at this; simp at this; omega)
      have hcell : w.cell? ⟨b, off + k, none⟩ = some (.int .i64 (k0 + (k : Int))) := hc k _ (by unfold marksK; simp [hlt])
      clear hc hr
      go_wp2_with fail
      go_round
      case rel => exact ⟨k + 1, by omega, by go_num, by go_num⟩
      case measure => simp [intOf]; omega
    · obtain rfl : k = n := by omega
      clear hr
      go_wp2_with fail
      go_ret
      exact ⟨rfl, rfl⟩

/-- What szIntS gives back: not negative only where the list fits. -/
theorem szIntS_any (a : Option Addr) (n cap left : Nat) (w : World) (hn : n ≤ maxLen) (hl : left ≤ 1048576) :
    Calls Try.prog 55 #[.slice a n cap, .int .i64 (left : Int)] w fun e w' => (∃ r : Int, e = .returned (.int .i64 r) ∧ (0 ≤ r → n ≤ left ∧ r = (left : Int) - n)) ∧ w' = w := by
  unfold maxLen at hn
  by_cases h0 : left < n
  · go_enter Try.func55, Try.ntmps55
    go_wp2_with fail
    go_ret
    exact ⟨⟨-1, rfl, by omega⟩, rfl⟩
  · go_enter Try.func55, Try.ntmps55
    go_wp2_with fail
    go_ret
    exact ⟨⟨_, rfl, fun _ => ⟨by omega, rfl⟩⟩, rfl⟩
end Go.Proofs.Ytnbnkjmellmmlaa

/-
  THE CANONICAL FORMS in which genlaw.py's walks take contracts: rows of ints of the call's own, with the interval of block numbers in which they lie.
-/
namespace Go.Proofs.Ytnbnkjmellmmlaa
open Go Go.RowKit

/-- A row of ints whose block, if it has one, lies from lo on and below hi. -/
structure Row (w : World) (lo hi : Nat) (v : Value) (n : Nat) (xs : List Value) : Prop where
  own : w.ownsRow lo 3 1 v n xs
  blk : ∀ j, v.ownBlock = some j → j < hi
  hi_le : hi ≤ w.heap.size

/-- What a contract is told of a slice that it reads: its elements; nil has no room; within its room. -/
structure SlW (w : World) (a : Option Addr) (c : Nat) (xs : List Value) : Prop where
  sl : SlV w a xs
  nil0 : a = none → c = 0
  le : xs.length ≤ c
  mx : c ≤ maxLen

theorem SlW.below {w w' : World} {a : Option Addr} {c : Nat} {xs : List Value} (h : SlW w a c xs) (hb : Below w.heap.size w w') : SlW w' a c xs := ⟨h.sl.below hb, h.nil0, h.le, h.mx⟩

/-- A call made a list of ints, nil where it is empty too. -/
def SlPost (M : List Int) (w : World) (e : Ending) (w' : World) : Prop :=
  ∃ v, e = .returned v ∧ w'.ownsRow w.heap.size 3 1 v M.length (M.map (Value.int .i64)) ∧ Below w.heap.size w w'

theorem row_kept {w w' : World} {base : Nat} {e : TypeId} {v : Value} {n : Nat} {xs : List Value} (h : w.ownsRow base e 1 v n xs) (hb : ∀ j, v.ownBlock = some j → w'.heap[j]? = w.heap[j]?) : w'.ownsRow base e 1 v n xs := by
  obtain ⟨hx, hv | ⟨g, cap, cur, rfl, h1, h2, h3⟩⟩ := h
  · exact ⟨hx, .inl hv⟩
  · exact ⟨hx, .inr ⟨g, cap, cur, rfl, h1, (hb g rfl).trans h2, h3⟩⟩

theorem ownsBase {w : World} {base base' : Nat} {e : TypeId} {v : Value} {n : Nat} {xs : List Value} (h : w.ownsRow base e 1 v n xs) (hb : base' ≤ base) : w.ownsRow base' e 1 v n xs := by
  obtain ⟨hx, hv | ⟨g, cap, cur, rfl, h1, h2⟩⟩ := h
  · exact ⟨hx, .inl hv⟩
  · exact ⟨hx, .inr ⟨g, cap, cur, rfl, Nat.le_trans hb h1, h2⟩⟩

theorem Row.below {w w' : World} {lo hi : Nat} {v : Value} {n : Nat} {xs : List Value} (h : Row w lo hi v n xs) (hb : Below w.heap.size w w') : Row w' lo hi v n xs :=
  ⟨row_kept h.own fun j hj => hb.block j (h.own.lt j hj).2, h.blk, Nat.le_trans h.hi_le hb.size⟩

theorem Row.grown {w w' : World} {lo hi : Nat} {v : Value} {n : Nat} {xs : List Value} {row : Option Nat} (h : Row w lo hi v n xs) (hg : w.grownBy w' row) (hd : ∀ j, row = some j → j < lo ∨ hi ≤ j) : Row w' lo hi v n xs :=
  ⟨row_kept h.own fun j hj => hg.block j (h.own.lt j hj).2 (fun e => by have h1 := h.blk j hj; have h2 := (h.own.lt j hj).1; rcases hd j e.symm with h3 | h3 <;> omega), h.blk, Nat.le_trans h.hi_le hg.size⟩

theorem Row.remade {w w' : World} {lo hi : Nat} {v : Value} {n : Nat} {xs ys : List Value} (h : Row w lo hi v n xs) (ho : w'.ownsRow lo 3 1 v n ys) {row : Option Nat} (hg : w.grownBy w' row) : Row w' lo hi v n ys :=
  ⟨ho, h.blk, Nat.le_trans h.hi_le hg.size⟩

theorem row_open {w' : World} {lo : Nat} {v : Value} {n : Nat} {xs : List Value} (ho : w'.ownsRow lo 3 1 v n xs) :
    ∃ a c, v = .slice a n c ∧ Row w' lo w'.heap.size (.slice a n c) n xs := by
  have hl := ho.lt
  have ho2 := ho
  obtain ⟨hx, ⟨rfl, rfl⟩ | ⟨g, cap, cur, rfl, h1, h2, h3⟩⟩ := ho
  · exact ⟨none, 0, rfl, ho2, fun j hj => (hl j hj).2, Nat.le_refl _⟩
  · exact ⟨_, _, rfl, ho2, fun j hj => (hl j hj).2, Nat.le_refl _⟩

theorem Row.slv {w : World} {lo hi : Nat} {a : Option Addr} {n c : Nat} {xs : List Value} (h : Row w lo hi (.slice a n c) n xs) : SlV w a xs := by
  obtain ⟨a', c', e, -, -, hs, -⟩ := SlV.of_owns h.own
  cases e
  exact hs

theorem Row.slw {w : World} {lo hi : Nat} {a : Option Addr} {n c : Nat} {xs : List Value} (h : Row w lo hi (.slice a n c) n xs) : SlW w a c xs := by
  refine ⟨h.slv, ?_, ?_, ?_⟩
  · rintro rfl
    rcases h.own.2 with ⟨e, -⟩ | ⟨g, cap, cur, e, -⟩
    · cases e; rfl
    · cases e
  · have h1 := h.own.1
    rcases h.own.2 with ⟨e, h0⟩ | ⟨g, cap, cur, e, -, -, h2, -⟩
    · omega
    · cases e; omega
  · rcases h.own.2 with ⟨e, h0⟩ | ⟨g, cap, cur, e, -, -, -, h2, -⟩
    · cases e; exact Nat.zero_le _
    · cases e; exact h2

theorem Row.len {w : World} {lo hi : Nat} {v : Value} {n : Nat} {xs : List Value} (h : Row w lo hi v n xs) : xs.length = n := by have := h.own.1; omega

theorem row_maxLen' {k : IntKind} {w : World} {a : Option Addr} {len cap : Nat} {zs : List Int} (h : IsRow k w a len cap zs) : len ≤ maxLen := by
  rcases h with ⟨rfl, -, -⟩ | ⟨b, off, -, -, hl, hm, -, -, -⟩
  · exact Nat.zero_le _
  · exact Nat.le_trans hl hm

theorem row_ints {w : World} {a : Option Addr} {len cap : Nat} {zs : List Int} (h : IsRow .i64 w a len cap zs) : ∀ x ∈ zs.take len, -9223372036854775808 ≤ x ∧ x ≤ 9223372036854775807 := by
  intro x hx
  rcases h with ⟨-, -, rfl⟩ | ⟨b, off, -, -, -, -, -, -, hw⟩
  · simp at hx
  · have h1 := hw x (List.mem_of_mem_take hx)
    have e1 : IntKind.i64.min = -9223372036854775808 := rfl
    have e2 : IntKind.i64.max = 9223372036854775807 := rfl
    simpa [Lit.wf, e1, e2] using h1

/-! ### The laws' helpers -/
theorem ct_IntS (L : List Int) (a : Option Addr) (cap : Nat) (w : World) (hr : SlV w a (L.map (Value.int .i64))) (hb : L.length ≤ 1048576) :
    Calls Try.prog 16 #[.slice a L.length cap] w fun e w' => ∃ v, e = .returned v ∧ w'.ownsRow w.heap.size 3 1 v L.length (L.map (Value.int .i64)) ∧ Below w.heap.size w w' :=
  (toIntS_any L a cap w hr hb).mono fun _ _ ⟨he, ho, h⟩ => ⟨_, he, ho, h⟩

theorem ce_IntS (L M : List Int) (a b : Option Addr) (ca cb : Nat) (w : World) (hr : SlV w a (L.map (Value.int .i64))) (hs : SlV w b (M.map (Value.int .i64))) (hb : L.length ≤ 4611686018427387904) (hb2 : M.length ≤ 4611686018427387904) :
    Calls Try.prog 18 #[.slice a L.length ca, .slice b M.length cb] w fun e w' => e = .returned (.bool (decide (L = M))) ∧ Below w.heap.size w w' :=
  eqIntS_any L M a b ca cb w hr hs hb hb2

theorem cm_IntS (k0 : Int) (B n : Nat) (v : Value) (xs : List Value) (w : World) (ho : w.ownsRow B 3 1 v n xs) (hn : n ≤ 4611686018427387904) (h0 : 0 ≤ k0) (h1 : k0 ≤ 1152921504606846976) :
    Calls Try.prog 28 #[v, .int .i64 k0] w fun e w' => e = .returned (.int .i64 (k0 + (n : Int))) ∧ w'.ownsRow B 3 1 v n (marksK k0 n) ∧ w.grownBy w' v.ownBlock :=
  markIntS_any k0 B n v xs w ho hn h0 h1

theorem ch_IntS (k0 : Int) (n cap : Nat) (a : Option Addr) (w : World) (hr : SlV w a (marksK k0 n)) (hn : n ≤ 4611686018427387904) (h0 : 0 ≤ k0) (h1 : k0 ≤ 1152921504606846976) :
    Calls Try.prog 37 #[.slice a n cap, .int .i64 k0] w fun e w' => e = .returned (.int .i64 (k0 + (n : Int))) ∧ Below w.heap.size w w' :=
  (heldIntS_any k0 n cap a w hr hn h0 h1).mono fun _ _ ⟨he, hw⟩ => ⟨he, by rw [hw]; exact Below.refl _ _⟩
end Go.Proofs.Ytnbnkjmellmmlaa
