/-
  CONTRACT of the reference's ParseList.
-/
import Derived.Test.YtjahmlaocgcjpaaGreatDoorL6
namespace Go.Proofs.YtjahmlaocgcjpaaGreatDoor
open Go Go.RowKit

theorem readList_none : readList noneB = some [] := by unfold readList; rw [if_pos rfl]
theorem noneB_list {s : ByteArray} (h : s.toList = [110, 111, 110, 101]) : s = noneB := by
  rw [ByteArray.toList_eq] at h
  cases s with
  | mk d => cases d with
    | mk l => simp at h; subst h; rfl

theorem len_le_lens (p : List UInt8) : ∀ L : List (List UInt8), p ∈ L → p.length ≤ Lib.lens L
  | [], h => by simp at h
  | q :: r, h => by
    rcases List.mem_cons.1 h with h | h
    · subst h; simp [Lib.lens]
    · have := len_le_lens p r h; simp [Lib.lens] at this ⊢; omega
theorem readAll_bad (P Q : List (List UInt8)) (p : List UInt8) (N : List Int) (h : readAll P = some N) (hp : readOf p (-999999999999) 999999999999 = none) : readAll (P ++ p :: Q) = none := by
  rw [readAll_append P _ N h]
  simp only [readAll, hp]
  rfl
theorem readAll_more (P : List (List UInt8)) (p : List UInt8) (N : List Int) (n : Int) (h : readAll P = some N) (hp : readOf p (-999999999999) 999999999999 = some n) : readAll (P ++ [p]) = some (N ++ [n]) := by
  rw [readAll_append P _ N h]
  simp only [readAll, hp]
  rfl

set_option maxRecDepth 100000 in
set_option maxHeartbeats 400000 in
theorem spec_ParseList (s : ByteArray) (w : World) (hs : s.size ≤ 1048576) :
    Calls Tryz.prog 15 #[.string s] w (ParsePost (readList s) w) := by
  obtain ⟨i0, hi, hz0, hz1, hz2⟩ := info_parts infoIntL
  have hown0 : (w.alloc (.cells #[] 3)).ownsRow w.heap.size 3 1 (.slice (some ⟨w.heap.size, 0, none⟩) 0 0) 0 [] := World.ownsRow_lit w #[] 0 (Nat.le_refl _) (by simp) rfl
  have hbel0 : Below w.heap.size w (w.alloc (.cells #[] 3)) := (Below.refl _ _).alloc (Nat.le_refl _) _
  have cs := spec_SplitByte s 44 (w.alloc (.cells #[] 3)) hs
  have e44 : ((44 : UInt8).toNat : Int) = 44 := rfl
  rw [e44] at cs
  clear e44
  go_enter Tryz.func15, Tryz.ntmps15
  go_wp2_with fail
  refine cs.mono ?_
  rintro e w1 ⟨M, v, hM, rfl, hp, hb1⟩
  clear cs
  have hbel1 := hbel0.trans (hb1.mono hbel0.size)
  have hown1 := owns_below hown0 hb1
  obtain ⟨g, cp, rfl, hg0, hsl, hMl, hgl, -⟩ := parts_open hM hp
  have HM := Lib.hid hM
  clear hM hp hb1 hown0 hbel0
  have hw1 := hbel1.size
  by_cases hq : (s.toList == [110, 111, 110, 101]) = true
  · have HR : Hid (readList s = some []) := Lib.hid (by rw [noneB_list (s := s) (by simpa using hq)]; exact readList_none)
    clear hsl hs
    go_wp2_with fail
    go_loopw [4, 6] (fun v i wr => v = .slice (some ⟨w.heap.size, 0, none⟩) 0 0 ∧ i = .int .i64 0 ∧ wr = w1) (fun _ i _ => (intOf i).toNat)
    case atStart => exact ⟨rfl, rfl, rfl⟩
    case round =>
      obtain ⟨rfl, rfl, rfl⟩ := hrel
      by_cases hml : (0 : Int) < (M.length : Int)
      · go_wp2_with fail
        go_ret2
        rw [HR.out]
        exact ⟨w.heap.size, 0, rfl, hown1, hbel1⟩
      · go_wp2_with fail
        go_ret2
        rw [HR.out]
        exact ⟨w.heap.size, 0, rfl, hown1, hbel1⟩
  · have hq2 : (s.toList == [110, 111, 110, 101]) = false := by simpa using hq
    have HR : Hid (readList s = readAll (M.map (·.data.toList))) := Lib.hid (by
      unfold readList
      rw [if_neg, HM.out]
      intro h
      apply hq
      rw [h, ByteArray.toList_eq]
      rfl)
    have HS : Hid (∀ m ∈ M, m.size ≤ s.size) := Lib.hid (by
      intro m hm
      have h1 : m.data.toList ∈ splitL 44 s.data.toList := by rw [← HM.out]; exact List.mem_map_of_mem hm
      have h2 := len_le_lens _ _ h1
      have h3 := splitL_lens 44 s.data.toList
      have e1 : m.data.toList.length = m.size := by simp
      have e2 : s.data.toList.length = s.size := by simp
      omega)
    clear hq HM
    go_wp2_with fail
    go_loopw [4, 6] (fun v i wr => ∃ (k q c : Nat) (N : List Int), k ≤ M.length ∧ i = .int .i64 (k : Int) ∧ v = .slice (some ⟨q, 0, none⟩) N.length c ∧ q ≠ g ∧ N.length = k ∧ readAll ((M.take k).map (·.data.toList)) = some N ∧
      wr.ownsRow w.heap.size 3 1 (.slice (some ⟨q, 0, none⟩) N.length c) N.length (N.map (Value.int .i64)) ∧ SlV wr (some ⟨g, 0, none⟩) (M.map Value.string) ∧ g < wr.heap.size ∧ Below w.heap.size w wr) (fun _ i _ => M.length - (intOf i).toNat)
    case atStart => exact ⟨0, w.heap.size, 0, [], Nat.zero_le _, rfl, rfl, by simp at hg0; omega, rfl, rfl, hown1, hsl, hgl, hbel1⟩
    case round =>
      clear hown1 hsl hbel1 hgl hw1
      obtain ⟨k, q, c, N, hk, rfl, rfl, hqg, hNk0, hrd, hown, hsl, hgl, hbel⟩ := hrel
      have hNk := Lib.hid hNk0
      have hNb : N.length ≤ M.length := by omega
      clear hNk0
      have HD := Lib.hid hrd
      have hsz := hbel.size
      clear hrd
      by_cases hlt : k < M.length
      · obtain ⟨b, off, hbo, hbs, hc⟩ := hsl.open (by intro h; rw [List.map_eq_nil_iff] at h; subst h; simp at hlt)
        injection hbo with hbo
        injection hbo with hb1 hb2
        subst hb1 hb2
        have hcell : wr.cell? ⟨g, k, none⟩ = some (.string M[k]) := by have := hc k (.string M[k]) (by simp [hlt]); simpa using this
        have hms := HS.out M[k] (List.getElem_mem hlt)
        have HT : Hid ((M.take (k + 1)).map (·.data.toList) = (M.take k).map (·.data.toList) ++ [M[k].data.toList]) := Lib.hid (by rw [List.take_add_one, List.getElem?_eq_getElem hlt, List.map_append]; rfl)
        have HA : Hid (M.map (·.data.toList) = (M.take k).map (·.data.toList) ++ M[k].data.toList :: (M.drop (k + 1)).map (·.data.toList)) := Lib.hid (by
          conv => lhs; rw [← List.take_append_drop k M, List.drop_eq_getElem_cons hlt]
          rw [List.map_append]; rfl)
        have cp := fun w => spec_ParseInt M[k] (by unfold maxLen; omega) w
        have hi1 : (k : Int) < (M.length : Int) := by omega
        have hi0 : (0 : Int) ≤ (k : Int) := by omega
        clear hc
        cases hro : readOf M[k].data.toList (-999999999999) 999999999999 with
        | none =>
          have HB : Hid (readList s = none) := Lib.hid (by rw [HR.out, HA.out]; exact readAll_bad _ _ _ _ HD.out hro)
          rw [hro] at cp
          clear hro HA HT
          generalize M[k] = x at *
          go_wp2_with fail
          refine (cp _).mono ?_
          unfold rdTuple
          rintro e w2 ⟨rfl, hb2⟩
          have hbel2 := hbel.trans (hb2.mono hsz)
          go_wp2_with fail
          go_ret2
          rw [HB.out]
          exact ⟨w2.heap.size, 0, rfl, World.ownsRow_lit w2 #[] 0 hbel2.size (by simp) rfl, hbel2.alloc hbel2.size _⟩
        | some n =>
          have HN := Lib.hid (readAll_more _ _ _ _ HD.out hro)
          rw [hro] at cp
          clear hro HA
          generalize M[k] = x at *
          go_wp2_with fail
          refine (cp _).mono ?_
          unfold rdTuple
          rintro e w2 ⟨rfl, hb2⟩
          have hbel2 := hbel.trans (hb2.mono hsz)
          have hown2 := owns_below hown hb2
          have hsl2 := hsl.below hb2
          have hgl2 := Nat.lt_of_lt_of_le hgl hb2.size
          have hsz2 := hbel2.size
          have hq2l := (owns_facts hown2).2.1
          go_wp2_with (at_builtin; refine wpList_append_lies _ rfl (.tmp 33) (.tmp 35) 27 rfl w.heap.size 3 i0 (Value.int .i64 0) 1 8 Tryz.underlying27 hi hz0 hz1 hz2 rfl (by decide) (.slice (some ⟨q, 0, none⟩) N.length c) N.length (N.map (Value.int .i64)) rfl (hown2.alloc _) ⟨w2.heap.size, 0, none⟩ 1 1 [.int .i64 n] rfl rfl (World.news_of_block (cs := #[.int .i64 n]) (t := 3) (fr := (0, 0)) (heap_alloc_new w2 _)) (by simp [Value.oneCell']) (by omega) (by unfold maxLen; omega) (by omega) (by simp; omega) _ rfl ?_; intro q3 c3 w3 hown3 hgr3 hat3 hlt3)
          have hb3 := (hbel2.alloc hsz2 _).grown hgr3 (by simp; omega) (fun j hj => by simp [Value.ownBlock] at hj; have := (owns_facts hown2).1; omega)
          have hblk : w3.heap[g]? = w2.heap[g]? := (hgr3.block g (by simp; omega) (by simp [Value.ownBlock]; omega)).trans (Below.heap_alloc w2 _ g hgl2)
          have hsl3 : SlV w3 (some ⟨g, 0, none⟩) (M.map Value.string) := by
            rcases hsl2 with h | ⟨b, off, ha, hl, hc⟩
            · exact .inl h
            · injection ha with ha
              injection ha with ha1 ha2
              subst ha1 ha2
              exact .inr ⟨g, 0, rfl, by have := hgr3.size; simp at this; omega, fun i u hu => (World.cell?_of_block (w := w2) hblk).trans (hc i u hu)⟩
          have hq3 : q3 ≠ g := by
            simp [Value.ownBlock] at hat3
            omega
          have hgl3 : g < w3.heap.size := by have := hgr3.size; simp at this; omega
          clear hown hown2 hsl hsl2 hgr3
          go_wp2_with fail
          go_roundw
          case rel => exact ⟨k + 1, q3, c3, N ++ [n], by omega, by go_num, by simp, hq3, by have := hNk.out; simp; omega, by rw [HT.out]; exact HN.out, by simpa using hown3, hsl3, hgl3, hb3⟩
          case measure => simp [intOf]; omega
      · obtain rfl : k = M.length := by omega
        have HE : Hid (readList s = some N) := Lib.hid (by rw [HR.out, ← HD.out, List.take_of_length_le (Nat.le_refl _)])
        clear hsl
        go_wp2_with fail
        go_ret2
        rw [HE.out]
        exact ⟨q, c, rfl, hown, hbel⟩
end Go.Proofs.YtjahmlaocgcjpaaGreatDoor
