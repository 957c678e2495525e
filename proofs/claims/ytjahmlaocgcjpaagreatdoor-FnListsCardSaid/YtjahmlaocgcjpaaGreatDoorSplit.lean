/-
  CONTRACTS of the two SplitByte: the parts of the text between the occurrences of the byte.
-/
import Derived.Test.YtjahmlaocgcjpaaGreatDoorSplitM
import Derived.Test.YtjahmlaocgcjpaaGreatDoorSl
import Derived.Test.YtjahmlaocgcjpaaGreatDoorFmt
import Derived.Test.YtjahmlaocgcjpaaGreatDoorShSplit
import Derived.WalkKit
import Derived.WalkLawsBesides
import Derived.WalkSpells
import Derived.Outline
namespace Go.Proofs.YtjahmlaocgcjpaaGreatDoor
open Go Go.RowKit

def SplitPost (s : ByteArray) (c : UInt8) (w : World) (e : Ending) (w' : World) : Prop :=
  ∃ (M : List ByteArray) (v : Value), M.map (·.data.toList) = splitL c s.data.toList ∧ e = .returned v ∧ w'.ownsRow w.heap.size 9 1 v M.length (M.map Value.string) ∧ Below w.heap.size w w'

/-- The one fact on a variable of the library's that the search asks: it holds some int. -/
def MaxLenIs (w : World) : Prop := ∃ m : Int, w.cell? ⟨0, 0, none⟩ = some (.int .i64 m)
theorem maxLenIs_of {w : World} (h : w.ShapedOpen Tryz.prog) : MaxLenIs w := Tryz.laysM146.s1_3 w h
theorem MaxLenIs.below {w w' : World} (h : MaxLenIs w) (hb : Below w.heap.size w w') : MaxLenIs w' := by
  obtain ⟨m, hm⟩ := h
  exact ⟨m, by rw [hb.cell (p := ⟨0, 0, none⟩) (lt_of_cell' hm)]; exact hm⟩

theorem heap_new2 (w : World) (o o' : Obj) : ((w.alloc o).alloc o').heap[w.heap.size + 1]? = some o' := by
  have e : w.heap.size + 1 = (w.alloc o).heap.size := by simp
  rw [e]; exact heap_alloc_new _ _

set_option maxRecDepth 100000 in
set_option maxHeartbeats 400000 in
theorem impl_SplitByte (s : ByteArray) (c : UInt8) (w : World) (hm : MaxLenIs w) (hs : s.size ≤ 1048576) :
    Calls Tryz.prog 42 #[.string s, .int .u8 (c.toNat : Int)] w (SplitPost s c w) := by
  have kc := fun (W : World) (x : Int) => run_convert_one (P := Tryz.prog) W 22 9 5 x Tryz.underlying22 Tryz.underlying5 Tryz.underlying9
  have hb0 : Below w.heap.size w (w.alloc (.cells #[.int .u8 (c.toNat : Int)] 5)) := (Below.refl _ _).alloc (Nat.le_refl _) _
  obtain ⟨m, hm1⟩ := hm.below hb0
  have hl := Lib.splitB_all ⟨#[c]⟩ (Nat.le_refl _) 0 (Lib.countB s ⟨#[c]⟩) s rfl
  have hd := splitB_one c s
  have hcl := Lib.countB_le ⟨#[c]⟩ (Nat.le_refl _) s.size s (Nat.le_refl _)
  have c1 := Tryz.strings_Split s ⟨#[c]⟩ m _ (by omega) hm1 (Nat.le_refl _)
  clear hm hm1
  generalize Lib.splitB ⟨#[c]⟩ 0 (Lib.countB s ⟨#[c]⟩) s = M at *
  generalize Lib.countB s ⟨#[c]⟩ = n at *
  have HL := Lib.hid hl
  have HD := Lib.hid hd
  clear hl hd
  go_enter Tryz.func42, Tryz.ntmps42
  go_wp2_with fail
  refine c1.mono ?_
  rintro e w1 ⟨rfl, rfl⟩
  go_wp2_with fail
  go_ret
  have hl := HL.out
  refine ⟨M, .slice (some ⟨w.heap.size + 1, 0, none⟩) (n + 1) (n + 1), HD.out, rfl, ⟨by simp, .inr ⟨w.heap.size + 1, n + 1, _, by rw [hl], by omega, heap_new2 _ _ _, ?_, ?_, ?_, ?_⟩⟩, (hb0.alloc hb0.size _)⟩
  · omega
  · unfold maxLen; omega
  · simp [hl]
  · rw [List.take_of_length_le (by simp)]

theorem infoStrS : (Tryz.prog.info? 9).map (fun i => (i.zero, i.size, i.bytes)) = some (some (Value.string ByteArray.empty), 1, 16) := by kernel_rfl

/-- THE REFERENCE's loop: what stands in 'out' when i bytes were looked at and the open part begins at k. -/
def SpInv (l : List UInt8) (c : UInt8) (M : List ByteArray) (k i : Nat) : Prop :=
  k ≤ i ∧ M.map (·.data.toList) ++ splitL c (l.drop k) = splitL c l ∧ ∀ x ∈ (l.drop k).take (i - k), x ≠ c
theorem spInv_start (l : List UInt8) (c : UInt8) : SpInv l c [] 0 0 := ⟨Nat.le_refl _, by simp, by simp⟩
theorem spInv_skip {l : List UInt8} {c : UInt8} {M : List ByteArray} {k i : Nat} (h : SpInv l c M k i) (hi : i < l.length) (hne : l[i] ≠ c) : SpInv l c M k (i + 1) := by
  obtain ⟨hk, he, hx⟩ := h
  refine ⟨by omega, he, fun x hm => ?_⟩
  have e1 : i + 1 - k = (i - k) + 1 := by omega
  rw [e1, List.take_add_one, List.mem_append] at hm
  rcases hm with hm | hm
  · exact hx x hm
  · have e2 : k + (i - k) = i := by omega
    rw [List.getElem?_drop, e2, List.getElem?_eq_getElem hi] at hm
    simp at hm
    rw [hm]; exact hne
theorem spInv_hit {s : ByteArray} {c : UInt8} {M : List ByteArray} {k i : Nat} (h : SpInv s.data.toList c M k i) (hi : i < s.data.toList.length) (he : s.data.toList[i] = c) : SpInv s.data.toList c (M ++ [s.extract k i]) (i + 1) (i + 1) := by
  obtain ⟨hk, hq, hx⟩ := h
  refine ⟨Nat.le_refl _, ?_, by simp⟩
  have e : s.data.toList.drop k = (s.data.toList.drop k).take (i - k) ++ c :: s.data.toList.drop (i + 1) := by
    conv => lhs; rw [← List.take_append_drop (i - k) (s.data.toList.drop k)]
    congr 1
    rw [List.drop_drop, show k + (i - k) = i by omega, List.drop_eq_getElem_cons hi, he]
  rw [e, splitL_hit c _ _ hx] at hq
  rw [← hq, List.map_append, List.append_assoc]
  congr 1
  simp
theorem spInv_end {s : ByteArray} {c : UInt8} {M : List ByteArray} {k i : Nat} (h : SpInv s.data.toList c M k i) (hi : i = s.data.toList.length) : (M ++ [s.extract k i]).map (·.data.toList) = splitL c s.data.toList := by
  obtain ⟨hk, hq, hx⟩ := h
  subst hi
  have e : (s.data.toList.drop k).take (s.data.toList.length - k) = s.data.toList.drop k := List.take_of_length_le (by simp)
  rw [e] at hx
  rw [splitL_none c _ hx] at hq
  rw [← hq, List.map_append]
  congr 1
  simp only [List.map_cons, List.map_nil, Lib.extract_data]
  rw [e]

theorem new_one (w : World) (x : Value) (t : TypeId) : ∀ (j : Nat) (u : Value), [x][j]? = some u → (w.alloc (.cells #[x] t)).cell? ((⟨w.heap.size, 0, none⟩ : Addr).add j) = some u := by
  intro j u hj
  match j, hj with
  | 0, hj => simp at hj; subst hj; simp [Addr.add]
theorem one_cell (x : ByteArray) : ∀ u ∈ [Value.string x], u.oneCell' = true := by intro u hu; simp at hu; subst hu; rfl

theorem byte_at (s : ByteArray) (k : Nat) (h : k < s.size) : s.data.toList[k]'(by simpa using h) = s[k] := by simp; rfl

set_option maxRecDepth 100000 in
set_option maxHeartbeats 800000 in
theorem spec_SplitByte (s : ByteArray) (c : UInt8) (w : World) (hs : s.size ≤ 1048576) :
    Calls Tryz.prog 44 #[.string s, .int .u8 (c.toNat : Int)] w (SplitPost s c w) := by
  obtain ⟨i0, hi, hz0, hz1, hz2⟩ := info_parts infoStrS
  go_enter Tryz.func44, Tryz.ntmps44
  go_wp2_with fail
  have hown0 : (w.alloc (.cells #[] 9)).ownsRow w.heap.size 9 1 (.slice (some ⟨w.heap.size, 0, none⟩) 0 0) 0 [] := World.ownsRow_lit w #[] 0 (Nat.le_refl _) (by simp) rfl
  have hbel0 : Below w.heap.size w (w.alloc (.cells #[] 9)) := (Below.refl _ _).alloc (Nat.le_refl _) _
  go_loopw [5, 6, 7] (fun v f i wr => ∃ (M : List ByteArray) (n : Nat), i = .int .i64 (n : Int) ∧ M.length ≤ n ∧ wr.ownsRow w.heap.size 9 1 v M.length (M.map Value.string) ∧ Below w.heap.size w wr ∧
      ((n ≤ s.size ∧ ∃ k : Nat, f = .int .i64 (k : Int) ∧ SpInv s.data.toList c M k n) ∨ (n = s.size + 1 ∧ M.map (·.data.toList) = splitL c s.data.toList))) (fun _ _ i _ => s.size + 1 - (intOf i).toNat)
  case atStart => exact ⟨[], 0, rfl, Nat.le_refl _, hown0, hbel0, .inl ⟨Nat.zero_le _, 0, rfl, spInv_start _ _⟩⟩
  case round =>
    clear hown0 hbel0
    obtain ⟨M, n, rfl, hMn, hown, hbel, ⟨hn, k, rfl, hinv⟩ | ⟨hn, hM⟩⟩ := hrel
    · have hsz := hbel.size
      have hkn : k ≤ n := hinv.1
      by_cases hlt : n < s.size
      · have hq0 : ((n : Int) == (s.size : Int)) = false := by rw [beq_eq_false_iff_ne]; omega
        by_cases hc : s[n] = c
        · have hq1 : ((s[n].toNat : Int) == (c.toNat : Int)) = true := by rw [hc]; simp
          have HI := Lib.hid (spInv_hit hinv (by simpa using hlt) (by rw [byte_at s n hlt]; exact hc))
          clear hinv hc
          go_wp2_with (at_builtin; refine wpList_append_own _ rfl (.tmp 26) (.tmp 31) 52 rfl w.heap.size 9 i0 (Value.string ByteArray.empty) 1 16 Tryz.underlying52 hi hz0 hz1 hz2 rfl (by decide) _ _ _ rfl (hown.alloc _) ⟨wr.heap.size, 0, none⟩ 1 1 [.string (s.extract k n)] rfl rfl (new_one wr _ _) (one_cell _) (by unfold maxLen; omega) (by omega) (by simp; omega) ?_; intro v2 w2 hown2 hgrow2 _)
          have hb2 := (hbel.alloc hsz _).grown hgrow2 (by simp; omega) (fun j hj => (hown.lt j hj).1)
          have HO := Lib.hid hown2
          clear hown hown2
          go_wp2_with fail
          go_roundw
          case rel => exact ⟨M ++ [s.extract k n], n + 1, by go_num, by simp; omega, by have := HO.out; simpa using this, hb2, .inl ⟨by omega, n + 1, by go_num, HI.out⟩⟩
          case measure => simp [intOf]; omega
        · have hq1 : ((s[n].toNat : Int) == (c.toNat : Int)) = false := by
            rw [beq_eq_false_iff_ne]; intro e; exact hc (UInt8.toNat_inj.1 (by omega))
          have HI := Lib.hid (spInv_skip hinv (by simpa using hlt) (by rw [byte_at s n hlt]; exact hc))
          clear hinv hc
          go_wp2_with fail
          go_roundw
          case rel => exact ⟨M, n + 1, by go_num, by omega, hown, hbel, .inl ⟨by omega, k, rfl, HI.out⟩⟩
          case measure => simp [intOf]; omega
      · obtain rfl : n = s.size := by omega
        have hq0 : ((s.size : Int) == (s.size : Int)) = true := by simp
        have HI := Lib.hid (spInv_end hinv (by simp))
        clear hinv
        go_wp2_with (at_builtin; refine wpList_append_own _ rfl (.tmp 26) (.tmp 31) 52 rfl w.heap.size 9 i0 (Value.string ByteArray.empty) 1 16 Tryz.underlying52 hi hz0 hz1 hz2 rfl (by decide) _ _ _ rfl (hown.alloc _) ⟨wr.heap.size, 0, none⟩ 1 1 [.string (s.extract k s.size)] rfl rfl (new_one wr _ _) (one_cell _) (by unfold maxLen; omega) (by omega) (by simp; omega) ?_; intro v2 w2 hown2 hgrow2 _)
        have hb2 := (hbel.alloc hsz _).grown hgrow2 (by simp; omega) (fun j hj => (hown.lt j hj).1)
        have HO := Lib.hid hown2
        clear hown hown2
        go_wp2_with fail
        go_roundw
        case rel => exact ⟨M ++ [s.extract k s.size], s.size + 1, by go_num, by rw [List.length_append]; simp only [List.length_cons, List.length_nil]; omega, by have := HO.out; simpa using this, hb2, .inr ⟨rfl, HI.out⟩⟩
        case measure => simp [intOf]
    · have HM := Lib.hid hM
      subst hn
      clear hM
      go_wp2_with fail
      go_ret
      exact ⟨M, _, HM.out, rfl, hown, hbel⟩

/-- A list of parts that the call made: opened. -/
theorem parts_open {w w' : World} {s : ByteArray} {c : UInt8} {M : List ByteArray} {v : Value} (hM : M.map (·.data.toList) = splitL c s.data.toList) (ho : w'.ownsRow w.heap.size 9 1 v M.length (M.map Value.string)) :
    ∃ g cap, v = .slice (some ⟨g, 0, none⟩) M.length cap ∧ w.heap.size ≤ g ∧ SlV w' (some ⟨g, 0, none⟩) (M.map Value.string) ∧ M.length ≤ s.size + 1 ∧ g < w'.heap.size ∧ M.length ≤ cap := by
  have hlen : M.length = (splitL c s.data.toList).length := by rw [← hM]; simp
  have hne : M ≠ [] := by
    intro h
    rw [h] at hM
    exact splitL_ne c _ hM.symm
  have hl := splitL_length c s.data.toList
  have hlt := ho.lt
  obtain ⟨a, cap, rfl, -, hcap, hs, h | ⟨g, rfl, hg⟩⟩ := SlV.of_owns ho
  · simp at h; exact absurd h hne
  · refine ⟨g, cap, rfl, hg, hs, ?_, (hlt g rfl).2, hcap⟩
    simp at hl
    omega
end Go.Proofs.YtjahmlaocgcjpaaGreatDoor
