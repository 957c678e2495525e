/-
  CHAPTER 4: gaps, no program; the reference's contracts.
-/
import Derived.Test.YtnbnkjmellmmlaaCh3L

/-
  GAPS AND SMALL ELEMENTS: no program. What a property of numbers that holds from c on says of the numbers below c. (Own work.)
-/
namespace Go.Proofs.Ytnbnkjmellmmlaa
open Go

/-- The numbers below n that have the property. -/
def upB (p : Nat → Bool) (n : Nat) : List Nat := (List.range n).filter p
theorem upB_zero (p : Nat → Bool) : upB p 0 = [] := rfl
theorem upB_succ (p : Nat → Bool) (n : Nat) : upB p (n + 1) = if p n then upB p n ++ [n] else upB p n := by
  unfold upB
  rw [List.range_succ, List.filter_append]
  cases h : p n <;> simp [h]
theorem upB_prefix (p : Nat → Bool) {m n : Nat} (h : m ≤ n) : ∃ r, upB p n = upB p m ++ r := by
  induction n with
  | zero => obtain rfl : m = 0 := by omega
            exact ⟨[], by simp⟩
  | succ n ih =>
    by_cases e : m = n + 1
    · exact ⟨[], by rw [e]; simp⟩
    · obtain ⟨r, hr⟩ := ih (by omega)
      rw [upB_succ]
      split
      · exact ⟨r ++ [n], by rw [hr]; simp⟩
      · exact ⟨r, hr⟩
theorem mem_upB {p : Nat → Bool} {n x : Nat} : x ∈ upB p n ↔ x < n ∧ p x = true := by
  unfold upB; rw [List.mem_filter, List.mem_range]
theorem upB_len_le (p : Nat → Bool) (n : Nat) : (upB p n).length ≤ n := by
  unfold upB; exact Nat.le_trans (List.length_filter_le _ _) (by simp)
/-- An element stands at the place of its own count. -/
theorem upB_at {p : Nat → Bool} {n c : Nat} (hp : p n = true) (h : n < c) : (upB p c)[(upB p n).length]? = some n := by
  obtain ⟨r, hr⟩ := upB_prefix p (show n + 1 ≤ c from h)
  rw [hr, upB_succ, if_pos hp, List.append_assoc]
  simp
/-- From c on all: the count grows by one each. -/
theorem upB_from {p : Nat → Bool} {c : Nat} (hc : ∀ n, c ≤ n → p n = true) (d : Nat) : (upB p (c + d)).length = (upB p c).length + d := by
  induction d with
  | zero => rfl
  | succ d ih => rw [← Nat.add_assoc, upB_succ, if_pos (hc _ (by omega)), List.length_append, ih]; simp; omega
theorem upB_not_add (p : Nat → Bool) (c : Nat) : (upB (fun n => !p n) c).length + (upB p c).length = c := by
  induction c with
  | zero => rfl
  | succ c ih => rw [upB_succ, upB_succ]; cases h : p c <;> simp <;> omega
theorem upB_not_from {p : Nat → Bool} {c : Nat} (hc : ∀ n, c ≤ n → p n = true) {m : Nat} (h : c ≤ m) : upB (fun n => !p n) m = upB (fun n => !p n) c := by
  obtain ⟨d, rfl⟩ := Nat.exists_eq_add_of_le h
  induction d with
  | zero => rfl
  | succ d ih => rw [← Nat.add_assoc, upB_succ, if_neg (by simp [hc (c + d) (by omega)])]; exact ih (by omega)
theorem upB_injOn {p : Nat → Bool} {m n : Nat} (hm : p m = true) (hn : p n = true) (h : (upB p m).length = (upB p n).length) : m = n := by
  rcases Nat.lt_trichotomy m n with hl | hl | hl
  · have h1 := upB_at hm hl
    rw [h, List.getElem?_eq_none (by omega)] at h1; cases h1
  · exact hl
  · have h1 := upB_at hn hl
    rw [← h, List.getElem?_eq_none (by omega)] at h1; cases h1

/-- The greatest without the property, plus 1 (0: there is none). -/
def endOf (p : Nat → Bool) : Nat → Nat
  | 0 => 0
  | n + 1 => if p n then endOf p n else n + 1
theorem endOf_le (p : Nat → Bool) (n : Nat) : endOf p n ≤ n := by
  induction n with
  | zero => exact Nat.le_refl _
  | succ n ih => unfold endOf; split <;> omega
theorem endOf_from {p : Nat → Bool} {N : Nat} (hN : ∀ n, N ≤ n → p n = true) : ∀ n, endOf p N ≤ n → p n = true := by
  induction N with
  | zero => exact fun n _ => hN n (Nat.zero_le _)
  | succ N ih =>
    intro n hn
    unfold endOf at hn
    split at hn
    · next hp => exact ih (fun m hm => by by_cases e : m = N; · rw [e]; exact hp
                                          · exact hN m (by omega)) n hn
    · exact hN n hn
theorem endOf_not (p : Nat → Bool) (N : Nat) (h : endOf p N ≠ 0) : p (endOf p N - 1) = false := by
  induction N with
  | zero => exact absurd rfl h
  | succ N ih =>
    unfold endOf at h ⊢
    cases hp : p N
    · rw [if_neg (by simp)]; exact hp
    · rw [hp, if_pos rfl] at h
      rw [if_pos rfl]; exact ih h
theorem last_endOf (p : Nat → Bool) (N : Nat) : (upB (fun n => !p n) N).getLast? = if endOf p N = 0 then none else some (endOf p N - 1) := by
  induction N with
  | zero => rfl
  | succ N ih =>
    rw [upB_succ]
    unfold endOf
    cases hp : p N
    · simp
    · simpa using ih

/-- The element with the index k, where all from c on are elements. -/
def nthB (p : Nat → Bool) (c k : Nat) : Nat := if h : k < (upB p c).length then (upB p c)[k] else c + k - (upB p c).length
theorem nthB_has {p : Nat → Bool} {c : Nat} (hc : ∀ n, c ≤ n → p n = true) (k : Nat) : p (nthB p c k) = true := by
  unfold nthB
  split
  · exact (mem_upB.1 (List.getElem_mem _)).2
  · exact hc _ (by omega)
theorem nthB_count {p : Nat → Bool} {c n : Nat} (hc : ∀ n, c ≤ n → p n = true) (hn : p n = true) : nthB p c (upB p n).length = n := by
  by_cases h : n < c
  · have h1 := upB_at hn h
    obtain ⟨hl, e⟩ := List.getElem?_eq_some_iff.1 h1
    unfold nthB
    rw [dif_pos hl]; exact e
  · obtain ⟨d, rfl⟩ := Nat.exists_eq_add_of_le (show c ≤ n by omega)
    have h1 := upB_from hc d
    unfold nthB
    rw [dif_neg (by omega)]
    omega
theorem count_nthB {p : Nat → Bool} {c : Nat} (hc : ∀ n, c ≤ n → p n = true) (k : Nat) : (upB p (nthB p c k)).length = k := by
  unfold nthB
  split
  · next h =>
    have hm := mem_upB.1 (List.getElem_mem h)
    have h1 := upB_at hm.2 hm.1
    obtain ⟨hl, e⟩ := List.getElem?_eq_some_iff.1 h1
    have hnd : (upB p c).Nodup := by unfold upB; exact List.Nodup.sublist List.filter_sublist List.nodup_range
    exact (List.getElem_inj hnd).1 e
  · next h =>
    have h1 := upB_from hc (k - (upB p c).length)
    rw [show c + k - (upB p c).length = c + (k - (upB p c).length) by omega]
    omega

/-! ### Chapter 4's answers -/
noncomputable def gapsL (G : List Int) : List Int := if isSgB G then (upB (fun n => !sumB G n) 200).map Int.ofNat else []
noncomputable def condNat (G : List Int) : Nat := endOf (sumB G) 200
noncomputable def frobN (G : List Int) : Int := if isSgB G then (if condNat G = 0 then -1 else (condNat G : Int) - 1) else -1
noncomputable def genusN (G : List Int) : Int := if isSgB G then ((gapsL G).length : Int) else -1
noncomputable def condN (G : List Int) : Int := frobN G + 1
noncomputable def smallL (G : List Int) : List Int := if isSgB G then (upB (sumB G) (condNat G)).map Int.ofNat else []
noncomputable def elemN (G : List Int) (k : Int) : Int := if isSgB G && decide (0 ≤ k) && decide (k ≤ 200) then (nthB (sumB G) (condNat G) k.toNat : Int) else -1
noncomputable def indexN (G : List Int) (n : Int) : Int := if hasN G n && decide (n ≤ 200) then ((upB (sumB G) n.toNat).length : Int) else -1

theorem sg_from {G : List Int} (h : isSgB G = true) : ∀ n, condNat G ≤ n → sumB G n = true :=
  endOf_from fun n hn => sumB_iff.2 (endsB_iff.1 (isSgB_iff.1 h).ends n hn)
theorem condNat_le (G : List Int) : condNat G ≤ 200 := endOf_le _ _
theorem condN_yes {G : List Int} (h : isSgB G = true) : condN G = (condNat G : Int) := by
  unfold condN frobN; rw [if_pos h]; split <;> omega
theorem condN_no {G : List Int} (h : isSgB G = false) : condN G = 0 := by unfold condN frobN; rw [h]; rfl
theorem gaps_last (G : List Int) : frobN G = ((gapsL G).getLast?).getD (-1) := by
  unfold frobN gapsL
  cases h : isSgB G
  · rfl
  · rw [if_pos rfl, if_pos rfl, List.getLast?_map, last_endOf]
    unfold condNat
    split
    · rfl
    · simp; omega
theorem gaps_small {G : List Int} (h : isSgB G = true) : ((gapsL G).length : Int) + ((smallL G).length : Int) = condN G := by
  rw [condN_yes h]
  unfold gapsL smallL
  rw [if_pos h, if_pos h, List.length_map, List.length_map, upB_not_from (sg_from h) (condNat_le G)]
  have := upB_not_add (sumB G) (condNat G)
  omega
theorem frob_not {G : List Int} (h : isSgB G = true) : hasN G (frobN G) = false := by
  unfold frobN
  rw [if_pos h]
  split
  · exact hasN_neg (by omega)
  · next hc =>
    rw [show (condNat G : Int) - 1 = ((condNat G - 1 : Nat) : Int) by omega, hasN_in h]
    exact endOf_not _ _ hc
theorem gaps_apart {G : List Int} : ∀ x ∈ gapsL G, x ∉ smallL G := by
  intro x hx hy
  unfold gapsL at hx
  unfold smallL at hy
  cases h : isSgB G
  · rw [h] at hx; simp at hx
  · rw [h, if_pos rfl, List.mem_map] at hx hy
    obtain ⟨a, ha, rfl⟩ := hx
    obtain ⟨b, hb, e⟩ := hy
    obtain rfl : b = a := Int.ofNat.inj e
    have h1 := (mem_upB.1 ha).2
    rw [(mem_upB.1 hb).2] at h1
    simp at h1
theorem elem_index {G : List Int} {k : Int} (h0 : 0 ≤ elemN G k) (h1 : elemN G k ≤ 200) : indexN G (elemN G k) = k := by
  cases hc : isSgB G && decide (0 ≤ k) && decide (k ≤ 200)
  · unfold elemN at h0; rw [hc] at h0; simp at h0
  · have e : elemN G k = (nthB (sumB G) (condNat G) k.toNat : Int) := by unfold elemN; rw [hc]; rfl
    rw [Bool.and_eq_true, Bool.and_eq_true, decide_eq_true_eq, decide_eq_true_eq] at hc
    obtain ⟨⟨hs, hk0⟩, hk1⟩ := hc
    rw [e] at h1 ⊢
    unfold indexN
    rw [hasN_in hs, nthB_has (sg_from hs), decide_eq_true h1, Bool.and_self, if_pos rfl, Int.toNat_natCast, count_nthB (sg_from hs)]
    omega
theorem index_elem {G : List Int} {n : Int} (h0 : 0 ≤ indexN G n) : elemN G (indexN G n) = n := by
  cases hc : hasN G n && decide (n ≤ 200)
  · unfold indexN at h0; rw [hc] at h0; simp at h0
  · have e : indexN G n = ((upB (sumB G) n.toNat).length : Int) := by unfold indexN; rw [hc]; rfl
    rw [Bool.and_eq_true, decide_eq_true_eq] at hc
    obtain ⟨hh, h1⟩ := hc
    have hs : isSgB G = true := by
      cases h : isSgB G
      · rw [hasN_not h] at hh; cases hh
      · rfl
    have hn0 : 0 ≤ n := by
      rcases Int.lt_or_le n 0 with h | h
      · rw [hasN_neg h] at hh; cases hh
      · exact h
    obtain ⟨N, rfl⟩ := Int.eq_ofNat_of_zero_le hn0
    rw [hasN_in hs] at hh
    rw [e, Int.toNat_natCast]
    have hl := upB_len_le (sumB G) N
    unfold elemN
    rw [hs, decide_eq_true (by omega : (0 : Int) ≤ ((upB (sumB G) N).length : Int)), decide_eq_true (by omega : ((upB (sumB G) N).length : Int) ≤ 200)]
    simp only [Bool.and_self, if_pos, Int.toNat_natCast]
    rw [nthB_count (sg_from hs) hh]
end Go.Proofs.Ytnbnkjmellmmlaa

/-
  CHAPTER 4 OF THE REFERENCE: l4Gaps. (Own work.)
-/
namespace Go.Proofs.Ytnbnkjmellmmlaa
open Go Go.RowKit

theorem owns_wider {w : World} {base base' : Nat} {e : TypeId} {v : Value} {n : Nat} {xs : List Value} (h : w.ownsRow base e 1 v n xs) (hb : base' ≤ base) : w.ownsRow base' e 1 v n xs := by
  obtain ⟨hx, ⟨rfl, h0⟩ | ⟨g, cap, cur, rfl, h1, h2⟩⟩ := h
  · exact ⟨hx, .inl ⟨rfl, h0⟩⟩
  · exact ⟨hx, .inr ⟨g, cap, cur, rfl, Nat.le_trans hb h1, h2⟩⟩

set_option maxRecDepth 100000 in
set_option maxHeartbeats 3200000 in
theorem spec_l4Gaps (G : List Int) (a : Option Addr) (cap : Nat) (w : World) (hr : SlV w a (G.map (Value.int .i64))) (hs : isSgB G = true) :
    Calls Try.prog 65 #[.agg #[.slice a G.length cap]] w (SlPost (gapsL G) w) := by
  obtain ⟨i0, hi, hz0, hz1, hz2⟩ := info_parts infoIntL
  have hS := isSgB_iff.1 hs
  have hl := hS.len
  have HG := Lib.hid (show gapsL G = (upB (fun n => !sumB G n) 200).map Int.ofNat by unfold gapsL; rw [if_pos hs])
  obtain ⟨W, hW⟩ : ∃ W, W = w.alloc (.cells #[.slice a G.length cap] 30) := ⟨_, rfl⟩
  have hbW : Below w.heap.size w W := by rw [hW]; exact box_below _ _
  have hc0 : W.cell? ⟨w.heap.size, 0, none⟩ = some (.slice a G.length cap) := by rw [hW]; exact box_cell w _
  have hWs : w.heap.size < W.heap.size := by rw [hW]; simp
  have HWE : Hid (W.heap.size = w.heap.size + 1) := Lib.hid (by rw [hW]; simp)
  have HW := Lib.hid hW
  clear hW
  have hown0 : (W.alloc (.cells #[] 3)).ownsRow w.heap.size 3 1 (.slice (some ⟨W.heap.size, 0, none⟩) 0 0) 0 [] := World.ownsRow_lit W #[] 0 (Nat.le_of_lt hWs) (by simp) rfl
  have hb0 := hbW.alloc (o := .cells #[] 3) hbW.size
  have ct := spec_l3Table G a cap 200 (W.alloc (.cells #[] 3)) (hr.below hb0) (by omega) (okG_pos hS.ok) (by omega)
  have hc1 : (W.alloc (.cells #[] 3)).cell? ⟨w.heap.size, 0, none⟩ = some (.slice a G.length cap) := by rw [World.cell?_alloc_lt _ _ _ (show w.heap.size < W.heap.size from hWs)]; exact hc0
  have hz : W.heap.size < (W.alloc (.cells #[] 3)).heap.size := by simp
  clear hr hs hS hc0
  go_enter Try.func65, Try.ntmps65
  go_wp2_with fail
  rw [← HW.out]
  refine ct.mono ?_
  rintro e w1 ⟨v, rfl, ho, hb1⟩
  obtain ⟨g, c, rfl, ht⟩ := tab_last ho
  have hg1 := (owns_facts ho).1
  have hg2 := (owns_facts ho).2.1
  have hown1 := owns_below hown0 hb1
  have hbel1 := hb0.trans (hb1.mono hb0.size)
  have HT := Lib.hid ht
  have hz3 := hb1.size
  clear ct ho hb1 hown0 hb0 ht hc1
  go_wp2_with fail
  go_loopw [3, 5] (fun v i wr => ∃ (k q c : Nat) (M : List Int), 1 ≤ k ∧ k ≤ 200 ∧ i = .int .i64 (k : Int) ∧ M = (upB (fun n => !sumB G n) k).map Int.ofNat ∧ v = .slice (some ⟨q, 0, none⟩) M.length c ∧
      wr.ownsRow w.heap.size 3 1 (.slice (some ⟨q, 0, none⟩) M.length c) M.length (M.map (Value.int .i64)) ∧ q ≠ g ∧ g < wr.heap.size ∧ Hid (∀ j, j ≤ 200 → wr.cell? ⟨g, j, none⟩ = some (.bool (sumB G j))) ∧ Below w.heap.size w wr) (fun _ i _ => 200 - (intOf i).toNat)
  case atStart =>
    have e1 : (upB (fun n => !sumB G n) 1).map Int.ofNat = [] := by rw [upB_succ, upB_zero, if_neg (by simp [sumB_iff.2 (IsSum.zero (G := G))])]; rfl
    exact ⟨1, w.heap.size + 1, 0, [], Nat.le_refl _, by omega, rfl, e1.symm, rfl, by have h := hown1; rw [HWE.out] at h; exact h, by have h := HWE.out; omega, hg2, HT, hbel1⟩
  case round =>
    clear hown1 hbel1 HT
    obtain ⟨k, q, c, M, hk1, hk, rfl, hMe, rfl, hown, hne, hgl, HT, hbel⟩ := hrel
    by_cases hlt : k < 200
    · have hcell := HT.out k (by omega)
      have hx0 : (0 : Int) ≤ (k : Int) := by omega
      have hx1 : (k : Int) < 201 := by omega
      have hx2 : (k : Int) < 200 := by omega
      cases hp : sumB G k
      · rw [hp] at hcell
        have hML : M.length ≤ k := by rw [hMe, List.length_map]; exact upB_len_le _ _
        have HMe := Lib.hid (show M ++ [(k : Int)] = (upB (fun n => !sumB G n) (k + 1)).map Int.ofNat by rw [upB_succ, if_pos (by simp [hp]), List.map_append, ← hMe]; rfl)
        have hsz2 := hbel.size
        clear hMe hp
        go_wp2_with (at_builtin; refine wpList_append_lies _ rfl _ _ 22 rfl w.heap.size 3 i0 (Value.int .i64 0) 1 8 Try.underlying22 hi hz0 hz1 hz2 rfl (by decide) (.slice (some ⟨q, 0, none⟩) M.length c) M.length (M.map (Value.int .i64)) rfl (hown.alloc _) ⟨wr.heap.size, 0, none⟩ 1 1 [.int .i64 (k : Int)] rfl rfl (World.news_of_block (cs := #[.int .i64 (k : Int)]) (t := 3) (fr := (0, 0)) (heap_alloc_new wr _)) (by simp [Value.oneCell']) (by omega) (by unfold maxLen; omega) (by omega) (by simp; omega) _ rfl ?_; intro q3 c3 w3 hown3 hgr3 hat3 hlt3)
        have hb3 := (hbel.alloc hsz2 _).grown hgr3 (by simp; omega) (fun j hj => by simp [Value.ownBlock] at hj; have := (owns_facts hown).1; omega)
        have hblk : w3.heap[g]? = wr.heap[g]? := (hgr3.block g (by simp; omega) (by simp [Value.ownBlock]; omega)).trans (Below.heap_alloc wr _ g hgl)
        have hgl3 : g < w3.heap.size := by have := hgr3.size; simp at this; omega
        have hq3 : q3 ≠ g := by
          rcases hat3 with h | h
          · simp [Value.ownBlock] at h; omega
          · simp at h; omega
        have HT3 := Lib.hid (show ∀ j, j ≤ 200 → w3.cell? ⟨g, j, none⟩ = some (.bool (sumB G j)) from fun j hj => (World.cell?_of_block (a := ⟨g, j, none⟩) hblk).trans (HT.out j hj))
        have HO := Lib.hid hown3
        clear hown3 hown hgr3 hblk HT
        go_wp2_with fail
        go_roundw
        case rel => exact ⟨k + 1, q3, c3, M ++ [(k : Int)], by omega, by omega, by go_num, HMe.out, by rw [List.length_append, List.length_singleton], by have := HO.out; simpa using this, hq3, hgl3, HT3, hb3⟩
        case measure => simp [intOf]; omega
      · rw [hp] at hcell
        have HMe := Lib.hid (show M = (upB (fun n => !sumB G n) (k + 1)).map Int.ofNat by rw [upB_succ, if_neg (by simp [hp])]; exact hMe)
        clear hMe hp
        go_wp2_with fail
        go_roundw
        case rel => exact ⟨k + 1, q, c, M, by omega, by omega, by go_num, HMe.out, rfl, hown, hne, hgl, HT, hbel⟩
        case measure => simp [intOf]; omega
    · obtain rfl : k = 200 := by omega
      have HMe := Lib.hid hMe
      clear hMe
      go_wp2_with fail
      go_ret
      exact ⟨_, rfl, by rw [HG.out, ← HMe.out]; exact hown, hbel⟩
set_option maxRecDepth 100000 in
set_option maxHeartbeats 3200000 in
theorem spec_l4Small (G : List Int) (a : Option Addr) (cap : Nat) (w : World) (hr : SlV w a (G.map (Value.int .i64))) (hs : isSgB G = true) (m : Nat) (hm : m ≤ 4000) :
    Calls Try.prog 69 #[.agg #[.slice a G.length cap], .int .i64 (m : Int)] w (SlPost ((upB (sumB G) m).map Int.ofNat) w) := by
  obtain ⟨i0, hi, hz0, hz1, hz2⟩ := info_parts infoIntL
  have hS := isSgB_iff.1 hs
  have hl := hS.len
  obtain ⟨W, hW⟩ : ∃ W, W = w.alloc (.cells #[.slice a G.length cap] 30) := ⟨_, rfl⟩
  have hbW : Below w.heap.size w W := by rw [hW]; exact box_below _ _
  have hc0 : W.cell? ⟨w.heap.size, 0, none⟩ = some (.slice a G.length cap) := by rw [hW]; exact box_cell w _
  have hWs : w.heap.size < W.heap.size := by rw [hW]; simp
  have HWE : Hid (W.heap.size = w.heap.size + 1) := Lib.hid (by rw [hW]; simp)
  have HW := Lib.hid hW
  clear hW
  have hown0 : (W.alloc (.cells #[] 3)).ownsRow w.heap.size 3 1 (.slice (some ⟨W.heap.size, 0, none⟩) 0 0) 0 [] := World.ownsRow_lit W #[] 0 (Nat.le_of_lt hWs) (by simp) rfl
  have hb0 := hbW.alloc (o := .cells #[] 3) hbW.size
  have ct := spec_l3Table G a cap m (W.alloc (.cells #[] 3)) (hr.below hb0) (by omega) (okG_pos hS.ok) (by omega)
  have hc1 : (W.alloc (.cells #[] 3)).cell? ⟨w.heap.size, 0, none⟩ = some (.slice a G.length cap) := by rw [World.cell?_alloc_lt _ _ _ (show w.heap.size < W.heap.size from hWs)]; exact hc0
  have hz : W.heap.size < (W.alloc (.cells #[] 3)).heap.size := by simp
  clear hr hs hS hc0
  by_cases hm0 : m = 0
  · subst hm0
    clear ct hc1
    have hlt1 : ((0 : Nat) : Int) < 1 := by omega
    go_enter Try.func69, Try.ntmps69
    go_wp2_with fail
    go_ret
    exact ⟨_, rfl, by rw [← HW.out]; have h := hown0; rw [HWE.out] at h; exact h, by rw [← HW.out]; exact hb0⟩
  have hm1 : ¬ (m : Int) < 1 := by omega
  go_enter Try.func69, Try.ntmps69
  go_wp2_with fail
  rw [← HW.out]
  refine ct.mono ?_
  rintro e w1 ⟨v, rfl, ho, hb1⟩
  obtain ⟨g, c, rfl, ht⟩ := tab_last ho
  have hg1 := (owns_facts ho).1
  have hg2 := (owns_facts ho).2.1
  have hown1 := owns_below hown0 hb1
  have hbel1 := hb0.trans (hb1.mono hb0.size)
  have HT := Lib.hid ht
  have hz3 := hb1.size
  clear ct ho hb1 hown0 hb0 ht hc1
  go_wp2_with fail
  go_loopw [5, 7] (fun v i wr => ∃ (k q c : Nat) (M : List Int), k ≤ m ∧ i = .int .i64 (k : Int) ∧ M = (upB (sumB G) k).map Int.ofNat ∧ v = .slice (some ⟨q, 0, none⟩) M.length c ∧
      wr.ownsRow w.heap.size 3 1 (.slice (some ⟨q, 0, none⟩) M.length c) M.length (M.map (Value.int .i64)) ∧ q ≠ g ∧ g < wr.heap.size ∧ Hid (∀ j, j ≤ m → wr.cell? ⟨g, j, none⟩ = some (.bool (sumB G j))) ∧ Below w.heap.size w wr) (fun _ i _ => m - (intOf i).toNat)
  case atStart =>
    exact ⟨0, w.heap.size + 1, 0, [], Nat.zero_le _, rfl, rfl, rfl, by have h := hown1; rw [HWE.out] at h; exact h, by have h := HWE.out; omega, hg2, HT, hbel1⟩
  case round =>
    clear hown1 hbel1 HT
    obtain ⟨k, q, c, M, hk, rfl, hMe, rfl, hown, hne, hgl, HT, hbel⟩ := hrel
    by_cases hlt : k < m
    · have hcell := HT.out k (by omega)
      have hx0 : (0 : Int) ≤ (k : Int) := by omega
      have hx1 : (k : Int) < (m : Int) + 1 := by omega
      have hx2 : (k : Int) < (m : Int) := by omega
      cases hp : sumB G k
      · rw [hp] at hcell
        have HMe := Lib.hid (show M = (upB (sumB G) (k + 1)).map Int.ofNat by rw [upB_succ, if_neg (by simp [hp])]; exact hMe)
        clear hMe hp
        go_wp2_with fail
        go_roundw
        case rel => exact ⟨k + 1, q, c, M, by omega, by go_num, HMe.out, rfl, hown, hne, hgl, HT, hbel⟩
        case measure => simp [intOf]; omega
      · rw [hp] at hcell
        have hML : M.length ≤ k := by rw [hMe, List.length_map]; exact upB_len_le _ _
        have HMe := Lib.hid (show M ++ [(k : Int)] = (upB (sumB G) (k + 1)).map Int.ofNat by rw [upB_succ, if_pos hp, List.map_append, ← hMe]; rfl)
        have hsz2 := hbel.size
        clear hMe hp
        go_wp2_with (at_builtin; refine wpList_append_lies _ rfl _ _ 22 rfl w.heap.size 3 i0 (Value.int .i64 0) 1 8 Try.underlying22 hi hz0 hz1 hz2 rfl (by decide) (.slice (some ⟨q, 0, none⟩) M.length c) M.length (M.map (Value.int .i64)) rfl (hown.alloc _) ⟨wr.heap.size, 0, none⟩ 1 1 [.int .i64 (k : Int)] rfl rfl (World.news_of_block (cs := #[.int .i64 (k : Int)]) (t := 3) (fr := (0, 0)) (heap_alloc_new wr _)) (by simp [Value.oneCell']) (by omega) (by unfold maxLen; omega) (by omega) (by simp; omega) _ rfl ?_; intro q3 c3 w3 hown3 hgr3 hat3 hlt3)
        have hb3 := (hbel.alloc hsz2 _).grown hgr3 (by simp; omega) (fun j hj => by simp [Value.ownBlock] at hj; have := (owns_facts hown).1; omega)
        have hblk : w3.heap[g]? = wr.heap[g]? := (hgr3.block g (by simp; omega) (by simp [Value.ownBlock]; omega)).trans (Below.heap_alloc wr _ g hgl)
        have hgl3 : g < w3.heap.size := by have := hgr3.size; simp at this; omega
        have hq3 : q3 ≠ g := by
          rcases hat3 with h | h
          · simp [Value.ownBlock] at h; omega
          · simp at h; omega
        have HT3 := Lib.hid (show ∀ j, j ≤ m → w3.cell? ⟨g, j, none⟩ = some (.bool (sumB G j)) from fun j hj => (World.cell?_of_block (a := ⟨g, j, none⟩) hblk).trans (HT.out j hj))
        have HO := Lib.hid hown3
        clear hown3 hown hgr3 hblk HT
        go_wp2_with fail
        go_roundw
        case rel => exact ⟨k + 1, q3, c3, M ++ [(k : Int)], by omega, by go_num, HMe.out, by rw [List.length_append, List.length_singleton], by have := HO.out; simpa using this, hq3, hgl3, HT3, hb3⟩
        case measure => simp [intOf]; omega
    · obtain rfl : k = m := by omega
      have HMe := Lib.hid hMe
      clear hMe
      go_wp2_with fail
      go_ret
      exact ⟨_, rfl, by rw [← HMe.out]; exact hown, hbel⟩
set_option maxRecDepth 100000 in
set_option maxHeartbeats 800000 in
theorem spec_Gaps (G : List Int) (a : Option Addr) (cap : Nat) (w : World) (hr : SlV w a (G.map (Value.int .i64))) (hb : G.length ≤ 1048576) :
    Calls Try.prog 35 #[.agg #[.slice a G.length cap]] w (SlPost (gapsL G) w) := by
  obtain ⟨W, hW⟩ : ∃ W, W = w.alloc (.cells #[.slice a G.length cap] 30) := ⟨_, rfl⟩
  have hbW : Below w.heap.size w W := by rw [hW]; exact box_below _ _
  have hc0 : W.cell? ⟨w.heap.size, 0, none⟩ = some (.slice a G.length cap) := by rw [hW]; exact box_cell w _
  have hWs : w.heap.size < W.heap.size := by rw [hW]; simp
  have c1 := spec_IsSemigroup G a cap W (hr.below hbW) hb
  have HW := Lib.hid hW
  clear hW
  cases hs : isSgB G
  · have HR := Lib.hid (show gapsL G = [] by unfold gapsL; rw [hs]; rfl)
    rw [hs] at c1
    clear hr hs
    go_enter Try.func35, Try.ntmps35
    go_wp2_with fail
    rw [← HW.out]
    refine c1.mono ?_
    rintro e w1 ⟨rfl, hb1⟩
    have hbz := hbW.trans (hb1.mono hbW.size)
    have hown0 : (w1.alloc (.cells #[] 3)).ownsRow w.heap.size 3 1 (.slice (some ⟨w1.heap.size, 0, none⟩) 0 0) 0 [] := World.ownsRow_lit w1 #[] 0 hbz.size (by simp) rfl
    go_wp2_with fail
    go_ret
    exact ⟨_, rfl, by rw [HR.out]; exact hown0, hbz.alloc hbz.size _⟩
  · rw [hs] at c1
    go_enter Try.func35, Try.ntmps35
    go_wp2_with fail
    rw [← HW.out]
    refine c1.mono ?_
    rintro e w1 ⟨rfl, hb1⟩
    have hbz := hbW.trans (hb1.mono hbW.size)
    have hk : w1.cell? ⟨w.heap.size, 0, none⟩ = some (.slice a G.length cap) := by rw [hb1.cell (p := ⟨w.heap.size, 0, none⟩) hWs]; exact hc0
    have c2 := spec_l4Gaps G a cap w1 (hr.below hbz) hs
    have hS := Lib.hid hs
    clear hs hr hc0 c1
    go_wp2_with fail
    refine c2.mono ?_
    rintro e w2 ⟨v, rfl, ho, hb2⟩
    clear c2
    go_wp2_with fail
    go_ret
    exact ⟨_, rfl, owns_wider ho hbz.size, hbz.trans (hb2.mono hbz.size)⟩

end Go.Proofs.Ytnbnkjmellmmlaa

/-
  CHAPTER 4 OF THE REFERENCE: FrobeniusOf, GenusOf, ConductorOf. (Own work.)
-/
namespace Go.Proofs.Ytnbnkjmellmmlaa
open Go Go.RowKit

theorem gapsL_length_le (G : List Int) : (gapsL G).length ≤ 200 := by
  unfold gapsL
  split
  · rw [List.length_map]; exact upB_len_le _ _
  · simp

set_option maxRecDepth 100000 in
set_option maxHeartbeats 800000 in
theorem spec_FrobeniusOf (G : List Int) (a : Option Addr) (cap : Nat) (w : World) (hr : SlV w a (G.map (Value.int .i64))) (hb : G.length ≤ 1048576) :
    Calls Try.prog 38 #[.agg #[.slice a G.length cap]] w fun e w' => e = .returned (.int .i64 (frobN G)) ∧ Below w.heap.size w w' := by
  obtain ⟨W, hW⟩ : ∃ W, W = w.alloc (.cells #[.slice a G.length cap] 30) := ⟨_, rfl⟩
  have hbW : Below w.heap.size w W := by rw [hW]; exact box_below _ _
  have hc0 : W.cell? ⟨w.heap.size, 0, none⟩ = some (.slice a G.length cap) := by rw [hW]; exact box_cell w _
  have hWs : w.heap.size < W.heap.size := by rw [hW]; simp
  have HW := Lib.hid hW
  clear hW
  have cg := spec_Gaps G a cap W (hr.below hbW) hb
  clear hc0
  have HF := Lib.hid (gaps_last G)
  have hlen := gapsL_length_le G
  clear hr hb
  go_enter Try.func38, Try.ntmps38
  go_wp2_with fail
  rw [← HW.out]
  refine cg.mono ?_
  rintro e w1 ⟨v, rfl, ho, hb0⟩
  have hb1 := hbW.trans (hb0.mono hbW.size)
  clear cg
  obtain ⟨a1, c1, rfl, -, -, hs1, -⟩ := SlV.of_owns ho
  clear ho
  generalize gapsL G = M at *
  by_cases hm : M.length = 0
  · have hn : M = [] := List.eq_nil_of_length_eq_zero hm
    subst hn
    clear hs1 hm hlen
    go_wp2_with fail
    go_ret
    exact ⟨by rw [HF.out]; rfl, hb1⟩
  · obtain ⟨b, off, rfl, hbs, hc⟩ := hs1.open (by intro h; rw [List.map_eq_nil_iff] at h; subst h; simp at hm)
    have hk : M.length - 1 < M.length := by omega
    have hcell : w1.cell? ⟨b, off + (M.length - 1), none⟩ = some (.int .i64 M[M.length - 1]) := hc (M.length - 1) _ (by simp [hk])
    have HL := Lib.hid (show frobN G = M[M.length - 1] by rw [HF.out, List.getLast?_eq_getElem?, List.getElem?_eq_getElem hk]; rfl)
    have hx2 : (0 : Int) ≤ (M.length : Int) - 1 := by omega
    have hx3 : (M.length : Int) - 1 < (M.length : Int) := by omega
    have hw1 : IntKind.i64.wrap ((M.length : Int) - 1) = (M.length : Int) - 1 := IntWalk.i64_in _ (by omega)
    have ht1 : ((M.length : Int) - 1).toNat = M.length - 1 := by omega
    have hne : ((M.length : Int) == 0) = false := by rw [beq_eq_false_iff_ne]; omega
    clear hc hs1 hm
    generalize M[M.length - 1] = x at *
    go_wp2_with fail
    go_ret
    exact ⟨by rw [HL.out]; rfl, hb1⟩

set_option maxRecDepth 100000 in
set_option maxHeartbeats 800000 in
theorem spec_ConductorOf (G : List Int) (a : Option Addr) (cap : Nat) (w : World) (hr : SlV w a (G.map (Value.int .i64))) (hb : G.length ≤ 1048576) :
    Calls Try.prog 42 #[.agg #[.slice a G.length cap]] w fun e w' => e = .returned (.int .i64 (condN G)) ∧ Below w.heap.size w w' := by
  obtain ⟨W, hW⟩ : ∃ W, W = w.alloc (.cells #[.slice a G.length cap] 30) := ⟨_, rfl⟩
  have hbW : Below w.heap.size w W := by rw [hW]; exact box_below _ _
  have hc0 : W.cell? ⟨w.heap.size, 0, none⟩ = some (.slice a G.length cap) := by rw [hW]; exact box_cell w _
  have hWs : w.heap.size < W.heap.size := by rw [hW]; simp
  have HW := Lib.hid hW
  clear hW
  have cg := spec_FrobeniusOf G a cap W (hr.below hbW) hb
  clear hc0
  have hw1 : IntKind.i64.wrap (frobN G + 1) = frobN G + 1 := IntWalk.i64_in _ (by have := condNat_le G; unfold frobN; split; split; all_goals omega)
  clear hr hb
  go_enter Try.func42, Try.ntmps42
  go_wp2_with fail
  rw [← HW.out]
  refine cg.mono ?_
  rintro e w1 ⟨rfl, hb0⟩
  have hb1 := hbW.trans (hb0.mono hbW.size)
  go_wp2_with fail
  go_ret
  exact ⟨rfl, hb1⟩

set_option maxRecDepth 100000 in
set_option maxHeartbeats 800000 in
theorem spec_GenusOf (G : List Int) (a : Option Addr) (cap : Nat) (w : World) (hr : SlV w a (G.map (Value.int .i64))) (hb : G.length ≤ 1048576) :
    Calls Try.prog 40 #[.agg #[.slice a G.length cap]] w fun e w' => e = .returned (.int .i64 (genusN G)) ∧ Below w.heap.size w w' := by
  obtain ⟨W, hW⟩ : ∃ W, W = w.alloc (.cells #[.slice a G.length cap] 30) := ⟨_, rfl⟩
  have hbW : Below w.heap.size w W := by rw [hW]; exact box_below _ _
  have hc0 : W.cell? ⟨w.heap.size, 0, none⟩ = some (.slice a G.length cap) := by rw [hW]; exact box_cell w _
  have hWs : w.heap.size < W.heap.size := by rw [hW]; simp
  have HW := Lib.hid hW
  clear hW
  have c1 := spec_IsSemigroup G a cap W (hr.below hbW) hb
  cases hs : isSgB G
  · have HR := Lib.hid (show genusN G = -1 by unfold genusN; rw [hs]; rfl)
    rw [hs] at c1
    clear hr hs
    go_enter Try.func40, Try.ntmps40
    go_wp2_with fail
    rw [← HW.out]
    refine c1.mono ?_
    rintro e w1 ⟨rfl, hb0⟩
    have hb1 := hbW.trans (hb0.mono hbW.size)
    go_wp2_with fail
    go_ret
    exact ⟨by rw [HR.out]; rfl, hb1⟩
  · rw [hs] at c1
    have HR := Lib.hid (show genusN G = ((gapsL G).length : Int) by unfold genusN; rw [if_pos hs])
    go_enter Try.func40, Try.ntmps40
    go_wp2_with fail
    rw [← HW.out]
    refine c1.mono ?_
    rintro e w1 ⟨rfl, hb0⟩
    have hb1 := hbW.trans (hb0.mono hbW.size)
    have hk : w1.cell? ⟨w.heap.size, 0, none⟩ = some (.slice a G.length cap) := by rw [hb0.cell (p := ⟨w.heap.size, 0, none⟩) hWs]; exact hc0
    have c2 := spec_l4Gaps G a cap w1 (hr.below hb1) hs
    have hS := Lib.hid hs
    clear hs hr c1 hc0 hb0
    go_wp2_with fail
    refine c2.mono ?_
    rintro e w2 ⟨v, rfl, ho, hb2⟩
    obtain ⟨a1, k1, rfl, -, -, hs1, -⟩ := SlV.of_owns ho
    clear c2 ho hs1
    go_wp2_with fail
    go_ret
    exact ⟨by rw [HR.out]; rfl, hb1.trans (hb2.mono hb1.size)⟩
end Go.Proofs.Ytnbnkjmellmmlaa

/-
  CHAPTER 4 OF THE REFERENCE: SmallElements, IndexOfElement. (Own work.)
-/
namespace Go.Proofs.Ytnbnkjmellmmlaa
open Go Go.RowKit

theorem smallL_yes {G : List Int} (h : isSgB G = true) : smallL G = (upB (sumB G) (condNat G)).map Int.ofNat := by unfold smallL; rw [if_pos h]
theorem smallL_no {G : List Int} (h : isSgB G = false) : smallL G = [] := by unfold smallL; rw [h]; rfl

set_option maxRecDepth 100000 in
set_option maxHeartbeats 800000 in
theorem spec_SmallElements (G : List Int) (a : Option Addr) (cap : Nat) (w : World) (hr : SlV w a (G.map (Value.int .i64))) (hb : G.length ≤ 1048576) :
    Calls Try.prog 44 #[.agg #[.slice a G.length cap]] w (SlPost (smallL G) w) := by
  obtain ⟨W, hW⟩ : ∃ W, W = w.alloc (.cells #[.slice a G.length cap] 30) := ⟨_, rfl⟩
  have hbW : Below w.heap.size w W := by rw [hW]; exact box_below _ _
  have hc0 : W.cell? ⟨w.heap.size, 0, none⟩ = some (.slice a G.length cap) := by rw [hW]; exact box_cell w _
  have hWs : w.heap.size < W.heap.size := by rw [hW]; simp
  have c1 := spec_IsSemigroup G a cap W (hr.below hbW) hb
  have HW := Lib.hid hW
  clear hW
  cases hs : isSgB G
  · have HR := Lib.hid (smallL_no hs)
    rw [hs] at c1
    clear hr hs
    go_enter Try.func44, Try.ntmps44
    go_wp2_with fail
    rw [← HW.out]
    refine c1.mono ?_
    rintro e w1 ⟨rfl, hb1⟩
    have hbz := hbW.trans (hb1.mono hbW.size)
    have hown0 : (w1.alloc (.cells #[] 3)).ownsRow w.heap.size 3 1 (.slice (some ⟨w1.heap.size, 0, none⟩) 0 0) 0 [] := World.ownsRow_lit w1 #[] 0 hbz.size (by simp) rfl
    go_wp2_with fail
    go_ret
    exact ⟨_, rfl, by rw [HR.out]; exact hown0, hbz.alloc hbz.size _⟩
  · rw [hs] at c1
    have HR := Lib.hid (smallL_yes hs)
    have HC := condN_yes hs
    have hcl := condNat_le G
    go_enter Try.func44, Try.ntmps44
    go_wp2_with fail
    rw [← HW.out]
    refine c1.mono ?_
    rintro e w1 ⟨rfl, hb1⟩
    have hbz := hbW.trans (hb1.mono hbW.size)
    have hk : w1.drew.cell? ⟨w.heap.size, 0, none⟩ = some (.slice a G.length cap) := by show w1.cell? _ = _; rw [hb1.cell (p := ⟨w.heap.size, 0, none⟩) hWs]; exact hc0
    have hbd : Below w.heap.size w w1.drew := hbz.drew
    have c2 := spec_ConductorOf G a cap w1.drew (hr.below hbd) hb
    rw [HC] at c2
    have c3 : ∀ w2, Below w1.drew.heap.size w1.drew w2 → Calls Try.prog 69 #[.agg #[.slice a G.length cap], .int .i64 (condNat G : Int)] w2 (SlPost ((upB (sumB G) (condNat G)).map Int.ofNat) w2) := fun w2 h2 => spec_l4Small G a cap w2 (hr.below (hbd.trans (h2.mono hbd.size))) hs (condNat G) (by omega)
    have hz1 := hb1.size
    clear hs hc0 c1 hb1 HC hr hb hcl
    generalize condNat G = C at *
    go_wp2_with fail
    refine wp_region_held_drew (S := fun w' => w'.cell? ⟨w.heap.size, 0, none⟩ = some (.slice a G.length cap)) (by kernel_rfl) hk (fun hHeld => ?_)
    refine held_take 0 _ _ rfl (by kernel_rfl) (by kernel_rfl) (by kernel_rfl) (fun _ _ _ h => h) (by rfl) hHeld (fun w hSw => by (try dsimp only at hSw); go_simp; try with_reducible rfl) ?_
    (try simp only [Act.put, List.setIfInBounds_toArray, List.set_cons_zero, List.set_cons_succ, List.getElem_toArray, List.getElem_cons_zero])
    refine held_take 1 _ _ rfl (by kernel_rfl) (by kernel_rfl) (by kernel_rfl) (fun _ _ _ h => h) (by rfl) hHeld (fun w hSw => by (try dsimp only at hSw); go_simp; try with_reducible rfl) ?_
    (try simp only [Act.put, List.setIfInBounds_toArray, List.set_cons_zero, List.set_cons_succ, List.getElem_toArray, List.getElem_cons_succ, List.getElem_cons_zero])
    refine wpAnyH_ready (rs := [2]) (by kernel_rfl) (by simp) ?_
    refine AllReadyH.cons rfl (fun K hK => ?_) AllReadyH.nil
    rw [if_pos (by rfl)]
    go_wp2_with (first | (go_at_call 42; (with_reducible refine c2.mono ?_); rintro e w2 ⟨rfl, hb2⟩; have hz2' : w1.heap.size ≤ w2.heap.size := hb2.size))
    refine hK.out _ _ ((hb2.cell (p := ⟨w.heap.size, 0, none⟩) (show w.heap.size < w1.heap.size by omega)).trans hHeld) (fun hHeld1 => ?_)
    clear hK K
    (try simp only [Act.put, List.setIfInBounds_toArray, List.set_cons_zero, List.set_cons_succ, List.getElem_toArray, List.getElem_cons_succ, List.getElem_cons_zero])
    refine wpAnyH_ready (rs := [3]) (by kernel_rfl) (by simp) ?_
    refine AllReadyH.cons rfl (fun K hK => ?_) AllReadyH.nil
    rw [if_pos (by rfl)]
    go_wp2_with (first | (go_at_call 69; (with_reducible refine (c3 w2 hb2).mono ?_); rintro e w3 ⟨v, rfl, ho, hb3⟩))
    refine hK.out _ _ ((hb3.cell (p := ⟨w.heap.size, 0, none⟩) (show w.heap.size < w2.heap.size by omega)).trans hHeld1) (fun hHeld2 => ?_)
    clear hK K
    (try simp only [Act.put, List.setIfInBounds_toArray, List.set_cons_zero, List.set_cons_succ, List.getElem_toArray, List.getElem_cons_succ, List.getElem_cons_zero])
    refine held_take 4 _ _ rfl (by kernel_rfl) (by kernel_rfl) (by kernel_rfl) (fun _ _ _ h => h) (by rfl) hHeld2 (fun w hSw => by (try dsimp only at hSw); go_simp; try with_reducible rfl) ?_
    (try simp only [Act.put, List.setIfInBounds_toArray, List.set_cons_zero, List.set_cons_succ, List.getElem_toArray, List.getElem_cons_succ, List.getElem_cons_zero])
    refine wpAnyH_done (by kernel_rfl) ?_ _
    go_wp2_with fail
    go_ret
    have hb2' := hbd.trans (hb2.mono hbd.size)
    exact ⟨_, rfl, by rw [HR.out]; exact owns_wider ho hb2'.size, hb2'.trans (hb3.mono hb2'.size)⟩


end Go.Proofs.Ytnbnkjmellmmlaa

/-
  CHAPTER 4 OF THE REFERENCE: ElementAt, IndexOfElement. (Own work.)
-/
namespace Go.Proofs.Ytnbnkjmellmmlaa
open Go Go.RowKit

theorem smallL_length_le (G : List Int) : (smallL G).length ≤ 200 := by
  unfold smallL
  split
  · rw [List.length_map]; exact Nat.le_trans (upB_len_le _ _) (condNat_le G)
  · simp
theorem elem_no {G : List Int} {k : Int} (h : isSgB G = false ∨ k < 0 ∨ 200 < k) : elemN G k = -1 := by
  unfold elemN
  rcases h with h | h | h
  · rw [h]; rfl
  · rw [decide_eq_false (by omega : ¬ (0 : Int) ≤ k)]; simp
  · rw [decide_eq_false (by omega : ¬ k ≤ (200 : Int))]; simp
theorem elem_in {G : List Int} (h : isSgB G = true) (k : Nat) (hk : k ≤ 200) : elemN G (k : Int) = (nthB (sumB G) (condNat G) k : Int) := by
  unfold elemN
  rw [h, decide_eq_true (by omega : (0 : Int) ≤ (k : Int)), decide_eq_true (by omega : (k : Int) ≤ 200)]
  simp
theorem elem_small {G : List Int} (h : isSgB G = true) (k : Nat) (hk : k ≤ 200) (hl : k < (smallL G).length) : (smallL G)[k] = elemN G (k : Int) := by
  rw [elem_in h k hk]
  have e := smallL_yes h
  have hl' : k < (upB (sumB G) (condNat G)).length := by rw [e, List.length_map] at hl; exact hl
  have h1 : (smallL G)[k]? = some (((upB (sumB G) (condNat G))[k] : Nat) : Int) := by rw [e, List.getElem?_map, List.getElem?_eq_getElem hl']; rfl
  rw [List.getElem?_eq_getElem hl] at h1
  unfold nthB
  rw [dif_pos hl']
  exact Option.some.inj h1
theorem elem_far {G : List Int} (h : isSgB G = true) (k : Nat) (hk : k ≤ 200) (hl : (smallL G).length ≤ k) : elemN G (k : Int) = condN G + (k : Int) - ((smallL G).length : Int) := by
  rw [elem_in h k hk, condN_yes h]
  have e : (smallL G).length = (upB (sumB G) (condNat G)).length := by rw [smallL_yes h, List.length_map]
  unfold nthB
  rw [dif_neg (by omega)]
  omega

set_option maxRecDepth 100000 in
set_option maxHeartbeats 1600000 in
theorem spec_ElementAt (G : List Int) (k : Int) (a : Option Addr) (cap : Nat) (w : World) (hr : SlV w a (G.map (Value.int .i64))) (hb : G.length ≤ 1048576) :
    Calls Try.prog 46 #[.agg #[.slice a G.length cap], .int .i64 k] w fun e w' => e = .returned (.int .i64 (elemN G k)) ∧ Below w.heap.size w w' := by
  obtain ⟨W, hW⟩ : ∃ W, W = w.alloc (.cells #[.slice a G.length cap] 30) := ⟨_, rfl⟩
  have hbW : Below w.heap.size w W := by rw [hW]; exact box_below _ _
  have hc0 : W.cell? ⟨w.heap.size, 0, none⟩ = some (.slice a G.length cap) := by rw [hW]; exact box_cell w _
  have hWs : w.heap.size < W.heap.size := by rw [hW]; simp
  have c1 := spec_IsSemigroup G a cap W (hr.below hbW) hb
  have HW := Lib.hid hW
  clear hW
  cases hs : isSgB G
  · have HR := Lib.hid (elem_no (k := k) (.inl hs))
    rw [hs] at c1
    clear hr hs
    go_enter Try.func46, Try.ntmps46
    go_wp2_with fail
    rw [← HW.out]
    refine c1.mono ?_
    rintro e w1 ⟨rfl, hb1⟩
    have hbz := hbW.trans (hb1.mono hbW.size)
    go_wp2_with fail
    go_ret
    exact ⟨by rw [HR.out]; rfl, hbz⟩
  rw [hs] at c1
  by_cases hk : 0 ≤ k ∧ k ≤ 200
  · obtain ⟨n, rfl⟩ := Int.eq_ofNat_of_zero_le hk.1
    have hn : n ≤ 200 := by omega
    have HI : inB (n : Int) 0 200 = true := inB_mk (by omega) (by omega)
    have hlen := smallL_length_le G
    have hcl := condNat_le G
    have hcn := condN_yes hs
    have he1 : Hid (∀ (hl : n < (smallL G).length), (smallL G)[n] = elemN G (n : Int)) := Lib.hid fun hl => elem_small hs n hn hl
    have he2 : Hid ((smallL G).length ≤ n → elemN G (n : Int) = condN G + (n : Int) - ((smallL G).length : Int)) := Lib.hid fun hl => elem_far hs n hn hl
    clear hk hs
    go_enter Try.func46, Try.ntmps46
    go_wp2_with fail
    rw [← HW.out]
    refine c1.mono ?_
    rintro e w1 ⟨rfl, hb1⟩
    have hbz := hbW.trans (hb1.mono hbW.size)
    have hk1 : w1.cell? ⟨w.heap.size, 0, none⟩ = some (.slice a G.length cap) := by rw [hb1.cell (p := ⟨w.heap.size, 0, none⟩) hWs]; exact hc0
    have hz1 := hb1.size
    clear c1 hb1 hc0
    go_wp2_with fail
    refine (l1In_any _ _ _ _).mono ?_
    rintro e w1' ⟨rfl, rfl⟩
    rw [HI]
    have c2 := spec_SmallElements G a cap w1' (hr.below hbz) hb
    clear HI
    go_wp2_with fail
    refine c2.mono ?_
    rintro e w2 ⟨v, rfl, ho, hb2⟩
    have hbz2 := hbz.trans (hb2.mono hbz.size)
    have hk2 : w2.cell? ⟨w.heap.size, 0, none⟩ = some (.slice a G.length cap) := by rw [hb2.cell (p := ⟨w.heap.size, 0, none⟩) (by omega : w.heap.size < w1'.heap.size)]; exact hk1
    have c3 := spec_ConductorOf G a cap w2 (hr.below hbz2) hb
    obtain ⟨a1, k1, rfl, -, -, hs1, -⟩ := SlV.of_owns ho
    clear c2 ho hb2 hr hk1
    generalize smallL G = M at *
    by_cases hl : n < M.length
    · obtain ⟨b, off, rfl, hbs, hc⟩ := hs1.open (by intro h; rw [List.map_eq_nil_iff] at h; subst h; simp at hl)
      have hcell : w2.cell? ⟨b, off + n, none⟩ = some (.int .i64 M[n]) := hc n _ (by simp [hl])
      have HR := Lib.hid (he1.out hl)
      have hx1 : (0 : Int) ≤ (n : Int) := by omega
      have hx2 : (n : Int) < (M.length : Int) := by omega
      clear hc hs1 he1 he2
      generalize M[n] = x at *
      go_wp2_with fail
      go_ret
      exact ⟨by rw [HR.out]; rfl, hbz2⟩
    · have HR := Lib.hid (he2.out (by omega))
      have hx2 : ¬ (n : Int) < (M.length : Int) := by omega
      clear he1 he2 hs1
      generalize condN G = C at *
      have hw1 : IntKind.i64.wrap (C + (n : Int)) = C + (n : Int) := IntWalk.i64_in _ (by omega)
      have hw2 : IntKind.i64.wrap (C + (n : Int) - (M.length : Int)) = C + (n : Int) - (M.length : Int) := IntWalk.i64_in _ (by omega)
      go_wp2_with fail
      refine c3.mono ?_
      rintro e w3 ⟨rfl, hb3⟩
      have hbz3 := hbz2.trans (hb3.mono hbz2.size)
      clear c3
      go_wp2_with fail
      go_ret
      exact ⟨by rw [HR.out, hcn]; rfl, hbz3⟩
  · have HI : inB k 0 200 = false := inB_no (by omega)
    have HR := Lib.hid (elem_no (G := G) (k := k) (.inr (by omega)))
    clear hr hs
    go_enter Try.func46, Try.ntmps46
    go_wp2_with fail
    rw [← HW.out]
    refine c1.mono ?_
    rintro e w1 ⟨rfl, hb1⟩
    have hbz := hbW.trans (hb1.mono hbW.size)
    go_wp2_with fail
    refine (l1In_any _ _ _ _).mono ?_
    rintro e w1' ⟨rfl, rfl⟩
    rw [HI]
    go_wp2_with fail
    go_ret
    exact ⟨by rw [HR.out]; rfl, hbz⟩

end Go.Proofs.Ytnbnkjmellmmlaa
