/-
  PLAIN LEMMAS for joining: what stands written after k elements; sizes; the conversion of owned bytes to a string.
-/
import Derived.Test.YtjahmlaocgcjpaaGreatDoorSl
import Derived.Lib.Join
import Derived.Lib.AppendStr
import Derived.Laws.BytesArg
namespace Go.Proofs.YtjahmlaocgcjpaaGreatDoor
open Go Go.RowKit

/-- Bytes as a slice's cells. -/
def bytesV (l : List UInt8) : List Value := l.map fun b => .int .u8 (b.toNat : Int)
theorem bytesV_append (l m : List UInt8) : bytesV (l ++ m) = bytesV l ++ bytesV m := by simp [bytesV]
theorem bytesV_str (s : ByteArray) : Lib.strCells s = bytesV s.data.toList := rfl

/-- 'string(b)' of a slice of bytes that is owned. -/
theorem conv_owned {P : Program} {w : World} {base : Nat} {src dst e : TypeId} {v : Value} {n : Nat} {l : List UInt8} (hs : P.underlying src = some (.slice e)) (he : P.underlying e = some (.int .u8)) (hd : P.underlying dst = some .string)
    (h : w.ownsRow base e 1 v n (bytesV l)) : (convert src dst v).run P w = .ok (.string ⟨l.toArray⟩) w := by
  have hn : (bytesV l).length = n := by have := h.1; omega
  obtain ⟨a, cap, rfl, -, -, hsl, -⟩ := SlV.of_owns h
  by_cases h0 : bytesV l = []
  · have hl : l = [] := by simpa [bytesV] using h0
    subst hl
    have : n = 0 := by rw [← hn]; rfl
    subst this
    rcases h.2 with ⟨e1, -⟩ | ⟨g, cap2, cur, e1, -⟩
    · simp only [Value.slice.injEq] at e1
      rw [e1.1]
      exact run_convert_bytes_nil w src e hs he _ _ dst hd
    · simp only [Value.slice.injEq] at e1
      rw [e1.1]
      exact run_convert_bytes_arg w src e hs he g 0 0 _ [] rfl (fun i hi => by omega) dst hd
  · obtain ⟨b, off, rfl, -, hc⟩ := hsl.open h0
    have hr := run_convert_bytes_arg (P := P) w src e hs he b off n cap (l.map fun b => (b.toNat : Int)) (by rw [← hn]; simp [bytesV]) (fun i hi => by
      have hi2 : i < l.length := by rw [← hn] at hi; simpa [bytesV] using hi
      rw [hc i (.int .u8 (l[i].toNat : Int)) (by simp [bytesV, hi2])]
      simp [List.getD, hi2]) dst hd
    rw [hr]
    congr 2
    unfold strOfNums
    congr 1
    simp [List.map_map, Function.comp_def]

/-- What stands written after k elements. -/
def J (L : List ByteArray) (sep : ByteArray) (k : Nat) : List UInt8 := Lib.join ((L.take k).map (·.data.toList)) sep.data.toList
def sizes (L : List ByteArray) : Nat := (L.map (·.size)).sum
theorem lens_sizes (L : List ByteArray) : Lib.lens (L.map (·.data.toList)) = sizes L := by
  unfold Lib.lens sizes; rw [List.map_map]; congr 1
theorem J_zero (L : List ByteArray) (sep : ByteArray) : J L sep 0 = [] := by simp [J, Lib.join_nil]
theorem J_one (L : List ByteArray) (sep : ByteArray) (h : 0 < L.length) : J L sep 1 = L[0].data.toList := by
  cases L with
  | nil => simp at h
  | cons x r => simp [J, Lib.join_one]
theorem J_succ (L : List ByteArray) (sep : ByteArray) (k : Nat) (h0 : 1 ≤ k) (h : k < L.length) : J L sep (k + 1) = J L sep k ++ sep.data.toList ++ L[k].data.toList := by
  cases L with
  | nil => simp at h
  | cons x r =>
    obtain ⟨j, rfl⟩ : ∃ j, k = j + 1 := ⟨k - 1, by omega⟩
    have hj : j < r.length := by simpa using h
    simp only [J, List.take_succ_cons, List.map_cons, Lib.join_cons, List.getElem_cons_succ, List.map_take]
    rw [Lib.joinTail_take_succ _ _ _ (r[j].data.toList) (by simp [hj])]
    simp [List.append_assoc]
theorem J_all (L : List ByteArray) (sep : ByteArray) : J L sep L.length = Lib.join (L.map (·.data.toList)) sep.data.toList := by simp [J]
theorem J_length (L : List ByteArray) (sep : ByteArray) (k : Nat) (h1 : L.length ≤ 1048576) (h2 : sizes L ≤ 1048576) (h3 : sep.size ≤ 1048576) : (J L sep k).length ≤ 1099513724928 := by
  have hk : (L.take k).length ≤ L.length := by rw [List.length_take]; omega
  have hs : Lib.lens ((L.take k).map (·.data.toList)) ≤ sizes L := by rw [← lens_sizes, List.map_take]; exact Lib.lens_take_le _ _
  unfold J
  cases hL : L.take k with
  | nil => simp [Lib.join_nil]
  | cons x r =>
    rw [hL] at hk hs
    simp only [List.map_cons, Lib.join_cons, List.length_append, Lib.joinTail_length, List.length_map]
    simp only [List.map_cons, Lib.lens, List.sum_cons] at hs
    have hm : sep.data.toList.length * r.length ≤ 1048576 * 1048576 := Nat.mul_le_mul (by simpa using h3) (by simp at hk; omega)
    unfold Lib.lens
    simp at hs hm ⊢
    omega

theorem J_lengthW (L : List ByteArray) (sep : ByteArray) (k : Nat) (h1 : L.length ≤ 1048576) (h2 : sizes L ≤ 1099511627776) (h3 : sep.size ≤ 1048576) : (J L sep k).length ≤ 2199024304128 := by
  have hk : (L.take k).length ≤ L.length := by rw [List.length_take]; omega
  have hs : Lib.lens ((L.take k).map (·.data.toList)) ≤ sizes L := by rw [← lens_sizes, List.map_take]; exact Lib.lens_take_le _ _
  unfold J
  cases hL : L.take k with
  | nil => simp [Lib.join_nil]
  | cons x r =>
    rw [hL] at hk hs
    simp only [List.map_cons, Lib.join_cons, List.length_append, Lib.joinTail_length, List.length_map]
    simp only [List.map_cons, Lib.lens, List.sum_cons] at hs
    have hm : sep.data.toList.length * r.length ≤ 1048576 * 1048576 := Nat.mul_le_mul (by simpa using h3) (by simp at hk; omega)
    unfold Lib.lens
    simp at hs hm ⊢
    omega

theorem sizes_append (L M : List ByteArray) : sizes (L ++ M) = sizes L + sizes M := by simp [sizes]
theorem sizes_take (L : List ByteArray) (k : Nat) (h : k < L.length) : sizes (L.take (k + 1)) = sizes (L.take k) + L[k].size := by
  rw [List.take_add_one, List.getElem?_eq_getElem h, sizes_append]
  congr 1
theorem sizes_take_le (L : List ByteArray) (k : Nat) : sizes (L.take k) ≤ sizes L := by
  conv => rhs; rw [← List.take_append_drop k L, sizes_append]
  omega
theorem size_le_sizes (L : List ByteArray) (k : Nat) (h : k < L.length) : sizes (L.take k) + L[k].size ≤ sizes L := by
  rw [← sizes_take L k h]; exact sizes_take_le L (k + 1)

end Go.Proofs.YtjahmlaocgcjpaaGreatDoor
