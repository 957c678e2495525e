/-
  CONTRACTS of szStringS and of the reference's Join.
-/
import Derived.Test.YtlllhlmmhkdpgaaSl
import Derived.WalkKit
import Derived.WalkLawsBesides
import Derived.Lib.Join
import Derived.Lib.AppendStr
import Derived.Laws.BytesArg
import Derived.Outline
namespace Go.Proofs.Ytlllhlmmhkdpgaa
open Go Go.RowKit

/-- Bytes as a slice's cells. -/
def bytesV (l : List UInt8) : List Value := l.map fun b => .int .u8 (b.toNat : Int)
theorem bytesV_append (l m : List UInt8) : bytesV (l ++ m) = bytesV l ++ bytesV m := by simp [bytesV]
theorem bytesV_str (s : ByteArray) : Lib.strCells s = bytesV s.data.toList := rfl

/-- 'string(b)' of a slice of bytes that is owned. -/
theorem conv_owned {P : Program} {w : World} {base : Nat} {src dst e : TypeId} {v : Value} {n : Nat} {l : List UInt8} (hs : P.underlying src = some (.slice e)) (he : P.underlying e = some (.int .u8)) (hd : P.underlying dst = some .string)
    (h : w.ownsRow base e 1 v n (bytesV l)) : (convert src dst v).run P w = .ok (.string ⟨l.toArray⟩) w := by
  have hn : (bytesV l).length = n := by have := h.1; omega
  obtain ⟨a, cap, rfl, -, -, hsl, -⟩ := SlV.of_owns h
  by_cases h0 : bytesV l = []
  · have hl : l = [] := by simpa [bytesV] using h0
    subst hl
    have : n = 0 := by rw [← hn]; rfl
    subst this
    rcases h.2 with ⟨e1, -⟩ | ⟨g, cap2, cur, e1, -⟩
    · simp only [Value.slice.injEq] at e1
      rw [e1.1]
      exact run_convert_bytes_nil w src e hs he _ _ dst hd
    · simp only [Value.slice.injEq] at e1
      rw [e1.1]
      exact run_convert_bytes_arg w src e hs he g 0 0 _ [] rfl (fun i hi => by omega) dst hd
  · obtain ⟨b, off, rfl, -, hc⟩ := hsl.open h0
    have hr := run_convert_bytes_arg (P := P) w src e hs he b off n cap (l.map fun b => (b.toNat : Int)) (by rw [← hn]; simp [bytesV]) (fun i hi => by
      have hi2 : i < l.length := by rw [← hn] at hi; simpa [bytesV] using hi
      rw [hc i (.int .u8 (l[i].toNat : Int)) (by simp [bytesV, hi2])]
      simp [List.getD, hi2]) dst hd
    rw [hr]
    congr 2
    unfold strOfNums
    congr 1
    simp [List.map_map, Function.comp_def]

/-- What stands written after k elements. -/
def J (L : List ByteArray) (sep : ByteArray) (k : Nat) : List UInt8 := Lib.join ((L.take k).map (·.data.toList)) sep.data.toList
def sizes (L : List ByteArray) : Nat := (L.map (·.size)).sum
theorem lens_sizes (L : List ByteArray) : Lib.lens (L.map (·.data.toList)) = sizes L := by
  unfold Lib.lens sizes; rw [List.map_map]; congr 1
theorem J_zero (L : List ByteArray) (sep : ByteArray) : J L sep 0 = [] := by simp [J, Lib.join_nil]
theorem J_one (L : List ByteArray) (sep : ByteArray) (h : 0 < L.length) : J L sep 1 = L[0].data.toList := by
  cases L with
  | nil => simp at h
  | cons x r => simp [J, Lib.join_one]
theorem J_succ (L : List ByteArray) (sep : ByteArray) (k : Nat) (h0 : 1 ≤ k) (h : k < L.length) : J L sep (k + 1) = J L sep k ++ sep.data.toList ++ L[k].data.toList := by
  cases L with
  | nil => simp at h
  | cons x r =>
    obtain ⟨j, rfl⟩ : ∃ j, k = j + 1 := ⟨k - 1, by omega⟩
    have hj : j < r.length := by simpa using h
    simp only [J, List.take_succ_cons, List.map_cons, Lib.join_cons, List.getElem_cons_succ, List.map_take]
    rw [Lib.joinTail_take_succ _ _ _ (r[j].data.toList) (by simp [hj])]
    simp [List.append_assoc]
theorem J_all (L : List ByteArray) (sep : ByteArray) : J L sep L.length = Lib.join (L.map (·.data.toList)) sep.data.toList := by simp [J]
theorem J_length (L : List ByteArray) (sep : ByteArray) (k : Nat) (h1 : L.length ≤ 1048576) (h2 : sizes L ≤ 1048576) (h3 : sep.size ≤ 1048576) : (J L sep k).length ≤ 1099513724928 := by
  have hk : (L.take k).length ≤ L.length := by rw [List.length_take]; omega
  have hs : Lib.lens ((L.take k).map (·.data.toList)) ≤ sizes L := by rw [← lens_sizes, List.map_take]; exact Lib.lens_take_le _ _
  unfold J
  cases hL : L.take k with
  | nil => simp [Lib.join_nil]
  | cons x r =>
    rw [hL] at hk hs
    simp only [List.map_cons, Lib.join_cons, List.length_append, Lib.joinTail_length, List.length_map]
    simp only [List.map_cons, Lib.lens, List.sum_cons] at hs
    have hm : sep.data.toList.length * r.length ≤ 1048576 * 1048576 := Nat.mul_le_mul (by simpa using h3) (by simp at hk; omega)
    unfold Lib.lens
    simp at hs hm ⊢
    omega

theorem infoByte : (Try.prog.info? 5).map (fun i => (i.zero, i.size, i.bytes)) = some (some (.int .u8 0), 1, 1) := by kernel_rfl

set_option maxRecDepth 100000 in
set_option maxHeartbeats 800000 in
/-- THE REFERENCE's Join. -/
theorem spec_Join (L : List ByteArray) (sep : ByteArray) (a : Option Addr) (cap : Nat) (w : World) (hr : SlV w a (L.map Value.string)) (h1 : L.length ≤ 1048576) (h2 : sizes L ≤ 1048576) (h3 : sep.size ≤ 1048576) :
    Calls Try.prog 5 #[.slice a L.length cap, .string sep] w fun e w' => e = .returned (.string ⟨(Lib.join (L.map (·.data.toList)) sep.data.toList).toArray⟩) ∧ Below w.heap.size w w' := by
  obtain ⟨i0, hi, hz0, hz1, hz2⟩ := info_parts infoByte
  go_enter Try.func5, Try.ntmps5
  go_wp2_with fail
  have hown0 : (w.alloc (.cells #[] 5)).ownsRow w.heap.size 5 1 (.slice (some ⟨w.heap.size, 0, none⟩) 0 0) 0 (bytesV (J L sep 0)) := by
    rw [J_zero]; exact World.ownsRow_lit w #[] 0 (Nat.le_refl _) (by simp) rfl
  have hbel0 : Below w.heap.size w (w.alloc (.cells #[] 5)) := (Below.refl _ _).alloc (Nat.le_refl _) _
  have hz : (J L sep 0).length = 0 := by rw [J_zero]; rfl
  rw [← hz] at hown0
  clear hz
  go_loopw [5, 6] (fun v i wr => ∃ k : Nat, k ≤ L.length ∧ i = .int .i64 (k : Int) ∧ wr.ownsRow w.heap.size 5 1 v (J L sep k).length (bytesV (J L sep k)) ∧ Below w.heap.size w wr) (fun _ i _ => L.length - (intOf i).toNat)
  case atStart => exact ⟨0, Nat.zero_le _, rfl, by simpa [J_zero] using hown0, hbel0⟩
  case round =>
    clear hown0 hbel0
    obtain ⟨k, hk, rfl, hown, hbel⟩ := hrel
    have hJ := J_length L sep k h1 h2 h3
    by_cases hlt : k < L.length
    · obtain ⟨b, off, rfl, hbs, hc⟩ := hr.open (by intro h; rw [List.map_eq_nil_iff] at h; subst h; simp at hlt)
      have hc1 : ∀ w1, Below w.heap.size w w1 → w1.cell? ⟨b, off + k, none⟩ = some (.string L[k]) := fun w1 hb => by rw [hb.cell (p := ⟨b, off + k, none⟩) hbs]; exact hc k _ (by simp [hlt])
      have hJ1 := J_length L sep (k + 1) h1 h2 h3
      have hsz := hbel.size
      by_cases h0 : k = 0
      · subst h0
        have hx : L[0].size = (J L sep 1).length := by rw [J_one L sep hlt]; simp
        have hJ11 := J_length L sep 1 h1 h2 h3
        have hsx : L[0].size ≤ 1099513724928 := by omega
        have HE := Lib.hid (show bytesV (J L sep 0) ++ Lib.strCells L[0] = bytesV (J L sep 1) by rw [J_zero, J_one L sep hlt]; rfl)
        have HX := Lib.hid hx
        have HC := Lib.hid hc1
        have hcell := hc1 wr hbel
        rw [Nat.add_zero] at hcell
        have hj0 : (J L sep 0).length = 0 := by rw [J_zero]; rfl
        rw [hj0] at hown
        clear hc hr hx hc1 hJ hj0
        go_wp2_with (at_builtin; (refine Lib.wpList_append_own_string _ rfl (.tmp 19) (.tmp 23) 28 9 rfl w.heap.size 5 i0 Try.underlying28 Try.underlying9 hi hz0 hz1 hz2 _ _ _ rfl hown L[0] rfl (by unfold maxLen; omega) (by omega) (by omega) ?_); intro v2 w2 hown2 hgrow2 _)
        have hb2 := hbel.grown hgrow2 hsz (fun j hj => (hown.lt j hj).1)
        rw [Nat.zero_add, HX.out, HE.out] at hown2
        have HO := Lib.hid hown2
        clear hown hown2
        go_wp2_with fail
        go_roundw
        case rel => exact ⟨1, by omega, by go_num, HO.out, hb2⟩
        case measure => simp [intOf]; omega
      · have hk1 : 1 ≤ k := by omega
        have hl := congrArg List.length (J_succ L sep k hk1 hlt)
        simp only [List.length_append] at hl
        have hsep : sep.size = sep.data.toList.length := by simp
        have hLk : L[k].size = L[k].data.toList.length := by simp
        have hb3 : (J L sep k).length + sep.size + L[k].size ≤ 1099513724928 := by omega
        have HE := Lib.hid (show bytesV (J L sep k) ++ Lib.strCells sep ++ Lib.strCells L[k] = bytesV (J L sep (k + 1)) by rw [J_succ L sep k hk1 hlt, bytesV_append, bytesV_append]; rfl)
        have HX := Lib.hid (show (J L sep k).length + sep.size + L[k].size = (J L sep (k + 1)).length by omega)
        have HC := Lib.hid hc1
        have hpos : (0 : Int) < (k : Int) := by omega
        clear hc hr hc1 hJ hl hsep hLk h0
        go_wp2_with (first | (at_builtin; (refine Lib.wpList_append_own_string _ rfl (.tmp 16) (.tmp 17) 28 9 rfl w.heap.size 5 i0 Try.underlying28 Try.underlying9 hi hz0 hz1 hz2 _ _ _ rfl hown sep rfl (by unfold maxLen; omega) (by omega) (by omega) ?_); intro v2 w2 hown2 hgrow2 _; have hb2 := hbel.grown hgrow2 hsz (fun j hj => (hown.lt j hj).1); have hcell := HC.out w2 hb2; have hsz2 := hb2.size) | (at_builtin; (refine Lib.wpList_append_own_string _ rfl (.tmp 19) (.tmp 23) 28 9 rfl w.heap.size 5 i0 Try.underlying28 Try.underlying9 hi hz0 hz1 hz2 _ _ _ rfl hown2 L[k] rfl (by unfold maxLen; omega) (by omega) (by omega) ?_); intro v3 w3 hown3 hgrow3 _))
        have hb4 := hb2.grown hgrow3 hsz2 (fun j hj => (hown2.lt j hj).1)
        rw [HX.out, HE.out] at hown3
        have HO := Lib.hid hown3
        clear hown2 hown3
        go_wp2_with fail
        go_roundw
        case rel => exact ⟨k + 1, by omega, by go_num, HO.out, hb4⟩
        case measure => simp [intOf]; omega
    · obtain rfl : k = L.length := by omega
      have hcv := conv_owned (P := Try.prog) (dst := 9) Try.underlying28 Try.underlying5 Try.underlying9 hown
      have HO := Lib.hid hown
      clear hown hr
      go_wp2_with fail
      go_ret
      exact ⟨by rw [← J_all]; rfl, hbel⟩

theorem sizes_append (L M : List ByteArray) : sizes (L ++ M) = sizes L + sizes M := by simp [sizes]
theorem sizes_take (L : List ByteArray) (k : Nat) (h : k < L.length) : sizes (L.take (k + 1)) = sizes (L.take k) + L[k].size := by
  rw [List.take_add_one, List.getElem?_eq_getElem h, sizes_append]
  congr 1
theorem sizes_take_le (L : List ByteArray) (k : Nat) : sizes (L.take k) ≤ sizes L := by
  conv => rhs; rw [← List.take_append_drop k L, sizes_append]
  omega
theorem size_le_sizes (L : List ByteArray) (k : Nat) (h : k < L.length) : sizes (L.take k) + L[k].size ≤ sizes L := by
  rw [← sizes_take L k h]; exact sizes_take_le L (k + 1)

/-- What szStringS gives back: not negative only where all fits. -/
def SzPost (L : List ByteArray) (left : Nat) (w : World) (e : Ending) (w' : World) : Prop :=
  ∃ r : Int, e = .returned (.int .i64 r) ∧ (0 ≤ r → L.length + sizes L ≤ left) ∧ w' = w

set_option maxRecDepth 100000 in
set_option maxHeartbeats 400000 in
theorem szStringS_any (L : List ByteArray) (a : Option Addr) (cap left : Nat) (w : World) (hr : SlV w a (L.map Value.string)) (hm : L.length ≤ maxLen) (hs : ∀ s ∈ L, s.size ≤ maxLen) (hleft : left ≤ 1048576) :
    Calls Try.prog 4 #[.slice a L.length cap, .int .i64 (left : Int)] w (SzPost L left w) := by
  unfold maxLen at hm hs
  by_cases h0 : left < L.length
  · go_enter Try.func4, Try.ntmps4
    go_wp2_with fail
    go_ret
    exact ⟨-1, rfl, by omega, rfl⟩
  · go_enter Try.func4, Try.ntmps4
    go_wp2_with fail
    go_loop [1, 5] (fun l i => ∃ (k r : Nat), k ≤ L.length ∧ i = .int .i64 (k : Int) ∧ l = .int .i64 (r : Int) ∧ L.length + sizes (L.take k) + r = left) (fun _ i => L.length - (intOf i).toNat)
    case atStart => exact ⟨0, left - L.length, Nat.zero_le _, rfl, by go_num, by simp [sizes]; omega⟩
    case round =>
      obtain ⟨k, r, hk, rfl, rfl, hsum⟩ := hrel
      have HS := Lib.hid hsum
      have hrl : r ≤ 1048576 := by omega
      clear hsum
      by_cases hlt : k < L.length
      · obtain ⟨b, off, rfl, hbs, hc⟩ := hr.open (by intro h; rw [List.map_eq_nil_iff] at h; subst h; simp at hlt)
        have hcell : w.cell? ⟨b, off + k, none⟩ = some (.string L[k]) := hc k _ (by simp [hlt])
        have hsk : L[k].size ≤ 9223372036854775807 := hs _ (List.getElem_mem hlt)
        have HT := Lib.hid (sizes_take L k hlt)
        have HT2 := Lib.hid (size_le_sizes L k hlt)
        clear hc hr hs
        generalize L[k] = x at *
        by_cases hneg : r < x.size
        · go_wp2_with fail
          go_ret
          exact ⟨-1, rfl, by omega, rfl⟩
        · go_wp2_with fail
          go_round
          case rel => exact ⟨k + 1, r - x.size, by omega, by go_num, by go_num, by have h1 := HS.out; have h2 := HT.out; rw [h2]; omega⟩
          case measure => simp [intOf]; omega
      · obtain rfl : k = L.length := by omega
        clear hr hs
        go_wp2_with fail
        go_ret
        refine ⟨_, rfl, fun _ => ?_, rfl⟩
        have h1 := HS.out
        rw [List.take_of_length_le (Nat.le_refl _)] at h1
        omega
end Go.Proofs.Ytlllhlmmhkdpgaa
