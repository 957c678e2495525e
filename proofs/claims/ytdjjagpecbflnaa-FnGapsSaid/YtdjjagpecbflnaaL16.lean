/-
  CHAPTER 4 OF THE REFERENCE: ElementAt, IndexOfElement. (Own work.)
-/
import Derived.Test.YtdjjagpecbflnaaL15
namespace Go.Proofs.Ytdjjagpecbflnaa
open Go Go.RowKit

theorem smallL_length_le (G : List Int) : (smallL G).length ≤ 200 := by
  unfold smallL
  split
  · rw [List.length_map]; exact Nat.le_trans (upB_len_le _ _) (condNat_le G)
  · simp
theorem elem_no {G : List Int} {k : Int} (h : isSgB G = false ∨ k < 0 ∨ 200 < k) : elemN G k = -1 := by
  unfold elemN
  rcases h with h | h | h
  · rw [h]; rfl
  · rw [decide_eq_false (by omega : ¬ (0 : Int) ≤ k)]; simp
  · rw [decide_eq_false (by omega : ¬ k ≤ (200 : Int))]; simp
theorem elem_in {G : List Int} (h : isSgB G = true) (k : Nat) (hk : k ≤ 200) : elemN G (k : Int) = (nthB (sumB G) (condNat G) k : Int) := by
  unfold elemN
  rw [h, decide_eq_true (by omega : (0 : Int) ≤ (k : Int)), decide_eq_true (by omega : (k : Int) ≤ 200)]
  simp
theorem elem_small {G : List Int} (h : isSgB G = true) (k : Nat) (hk : k ≤ 200) (hl : k < (smallL G).length) : (smallL G)[k] = elemN G (k : Int) := by
  rw [elem_in h k hk]
  have e := smallL_yes h
  have hl' : k < (upB (sumB G) (condNat G)).length := by rw [e, List.length_map] at hl; exact hl
  have h1 : (smallL G)[k]? = some (((upB (sumB G) (condNat G))[k] : Nat) : Int) := by rw [e, List.getElem?_map, List.getElem?_eq_getElem hl']; rfl
  rw [List.getElem?_eq_getElem hl] at h1
  unfold nthB
  rw [dif_pos hl']
  exact Option.some.inj h1
theorem elem_far {G : List Int} (h : isSgB G = true) (k : Nat) (hk : k ≤ 200) (hl : (smallL G).length ≤ k) : elemN G (k : Int) = condN G + (k : Int) - ((smallL G).length : Int) := by
  rw [elem_in h k hk, condN_yes h]
  have e : (smallL G).length = (upB (sumB G) (condNat G)).length := by rw [smallL_yes h, List.length_map]
  unfold nthB
  rw [dif_neg (by omega)]
  omega

set_option maxRecDepth 100000 in
set_option maxHeartbeats 1600000 in
theorem spec_ElementAt (G : List Int) (k : Int) (a : Option Addr) (cap : Nat) (w : World) (hr : SlV w a (G.map (Value.int .i64))) (hb : G.length ≤ 1048576) :
    Calls Try.prog 22 #[.agg #[.slice a G.length cap], .int .i64 k] w fun e w' => e = .returned (.int .i64 (elemN G k)) ∧ Below w.heap.size w w' := by
  obtain ⟨W, hW⟩ : ∃ W, W = w.alloc (.cells #[.slice a G.length cap] 26) := ⟨_, rfl⟩
  have hbW : Below w.heap.size w W := by rw [hW]; exact box_below _ _
  have hc0 : W.cell? ⟨w.heap.size, 0, none⟩ = some (.slice a G.length cap) := by rw [hW]; exact box_cell w _
  have hWs : w.heap.size < W.heap.size := by rw [hW]; simp
  have c1 := spec_IsSemigroup G a cap W (hr.below hbW) hb
  have HW := Lib.hid hW
  clear hW
  cases hs : isSgB G
  · have HR := Lib.hid (elem_no (k := k) (.inl hs))
    rw [hs] at c1
    clear hr hs
    go_enter Try.func22, Try.ntmps22
    go_wp2_with fail
    rw [← HW.out]
    refine c1.mono ?_
    rintro e w1 ⟨rfl, hb1⟩
    have hbz := hbW.trans (hb1.mono hbW.size)
    go_wp2_with fail
    go_ret
    exact ⟨by rw [HR.out]; rfl, hbz⟩
  rw [hs] at c1
  by_cases hk : 0 ≤ k ∧ k ≤ 200
  · obtain ⟨n, rfl⟩ := Int.eq_ofNat_of_zero_le hk.1
    have hn : n ≤ 200 := by omega
    have HI : inB (n : Int) 0 200 = true := inB_mk (by omega) (by omega)
    have hlen := smallL_length_le G
    have hcl := condNat_le G
    have hcn := condN_yes hs
    have he1 : Hid (∀ (hl : n < (smallL G).length), (smallL G)[n] = elemN G (n : Int)) := Lib.hid fun hl => elem_small hs n hn hl
    have he2 : Hid ((smallL G).length ≤ n → elemN G (n : Int) = condN G + (n : Int) - ((smallL G).length : Int)) := Lib.hid fun hl => elem_far hs n hn hl
    clear hk hs
    go_enter Try.func22, Try.ntmps22
    go_wp2_with fail
    rw [← HW.out]
    refine c1.mono ?_
    rintro e w1 ⟨rfl, hb1⟩
    have hbz := hbW.trans (hb1.mono hbW.size)
    have hk1 : w1.cell? ⟨w.heap.size, 0, none⟩ = some (.slice a G.length cap) := by rw [hb1.cell (p := ⟨w.heap.size, 0, none⟩) hWs]; exact hc0
    have hz1 := hb1.size
    clear c1 hb1 hc0
    go_wp2_with fail
    refine (l1In_any _ _ _ _).mono ?_
    rintro e w1' ⟨rfl, rfl⟩
    rw [HI]
    have c2 := spec_SmallElements G a cap w1' (hr.below hbz) hb
    clear HI
    go_wp2_with fail
    refine c2.mono ?_
    rintro e w2 ⟨v, rfl, ho, hb2⟩
    have hbz2 := hbz.trans (hb2.mono hbz.size)
    have hk2 : w2.cell? ⟨w.heap.size, 0, none⟩ = some (.slice a G.length cap) := by rw [hb2.cell (p := ⟨w.heap.size, 0, none⟩) (by omega : w.heap.size < w1'.heap.size)]; exact hk1
    have c3 := spec_ConductorOf G a cap w2 (hr.below hbz2) hb
    obtain ⟨a1, k1, rfl, -, -, hs1, -⟩ := SlV.of_owns ho
    clear c2 ho hb2 hr hk1
    generalize smallL G = M at *
    by_cases hl : n < M.length
    · obtain ⟨b, off, rfl, hbs, hc⟩ := hs1.open (by intro h; rw [List.map_eq_nil_iff] at h; subst h; simp at hl)
      have hcell : w2.cell? ⟨b, off + n, none⟩ = some (.int .i64 M[n]) := hc n _ (by simp [hl])
      have HR := Lib.hid (he1.out hl)
      have hx1 : (0 : Int) ≤ (n : Int) := by omega
      have hx2 : (n : Int) < (M.length : Int) := by omega
      clear hc hs1 he1 he2
      generalize M[n] = x at *
      go_wp2_with fail
      go_ret
      exact ⟨by rw [HR.out]; rfl, hbz2⟩
    · have HR := Lib.hid (he2.out (by omega))
      have hx2 : ¬ (n : Int) < (M.length : Int) := by omega
      clear he1 he2 hs1
      generalize condN G = C at *
      have hw1 : IntKind.i64.wrap (C + (n : Int)) = C + (n : Int) := IntWalk.i64_in _ (by omega)
      have hw2 : IntKind.i64.wrap (C + (n : Int) - (M.length : Int)) = C + (n : Int) - (M.length : Int) := IntWalk.i64_in _ (by omega)
      go_wp2_with fail
      refine c3.mono ?_
      rintro e w3 ⟨rfl, hb3⟩
      have hbz3 := hbz2.trans (hb3.mono hbz2.size)
      clear c3
      go_wp2_with fail
      go_ret
      exact ⟨by rw [HR.out, hcn]; rfl, hbz3⟩
  · have HI : inB k 0 200 = false := inB_no (by omega)
    have HR := Lib.hid (elem_no (G := G) (k := k) (.inr (by omega)))
    clear hr hs
    go_enter Try.func22, Try.ntmps22
    go_wp2_with fail
    rw [← HW.out]
    refine c1.mono ?_
    rintro e w1 ⟨rfl, hb1⟩
    have hbz := hbW.trans (hb1.mono hbW.size)
    go_wp2_with fail
    refine (l1In_any _ _ _ _).mono ?_
    rintro e w1' ⟨rfl, rfl⟩
    rw [HI]
    go_wp2_with fail
    go_ret
    exact ⟨by rw [HR.out]; rfl, hbz⟩

set_option maxRecDepth 100000 in
set_option maxHeartbeats 1600000 in
theorem spec_IndexOfElement (G : List Int) (n : Int) (a : Option Addr) (cap : Nat) (w : World) (hr : SlV w a (G.map (Value.int .i64))) (hb : G.length ≤ 1048576) :
    Calls Try.prog 23 #[.agg #[.slice a G.length cap], .int .i64 n] w fun e w' => e = .returned (.int .i64 (indexN G n)) ∧ Below w.heap.size w w' := by
  obtain ⟨W, hW⟩ : ∃ W, W = w.alloc (.cells #[.slice a G.length cap] 26) := ⟨_, rfl⟩
  have hbW : Below w.heap.size w W := by rw [hW]; exact box_below _ _
  have hc0 : W.cell? ⟨w.heap.size, 0, none⟩ = some (.slice a G.length cap) := by rw [hW]; exact box_cell w _
  have hWs : w.heap.size < W.heap.size := by rw [hW]; simp
  have c1 := spec_Contains G n a cap W (hr.below hbW) hb
  have HW := Lib.hid hW
  clear hW
  cases hs : hasN G n
  · have HR := Lib.hid (show indexN G n = -1 by unfold indexN; rw [hs]; rfl)
    rw [hs] at c1
    clear hr hs
    go_enter Try.func23, Try.ntmps23
    go_wp2_with fail
    rw [← HW.out]
    refine c1.mono ?_
    rintro e w1 ⟨rfl, hb1⟩
    have hbz := hbW.trans (hb1.mono hbW.size)
    go_wp2_with fail
    go_ret
    exact ⟨by rw [HR.out]; rfl, hbz⟩
  rw [hs] at c1
  by_cases hk : n ≤ 200
  · have HR := Lib.hid (show indexN G n = ((upB (sumB G) n.toNat).length : Int) by unfold indexN; rw [hs, decide_eq_true hk]; rfl)
    have hn0 : 0 ≤ n := by
      rcases Int.lt_or_le n 0 with h | h
      · rw [hasN_neg h] at hs; cases hs
      · exact h
    have hsg : isSgB G = true := by
      cases h : isSgB G
      · rw [hasN_not h] at hs; cases hs
      · rfl
    obtain ⟨m, rfl⟩ := Int.eq_ofNat_of_zero_le hn0
    have hgt : ¬ (200 : Int) < (m : Int) := by omega
    have hgt' : decide ((200 : Int) < (m : Int)) = false := decide_eq_false hgt
    have hnl := upB_len_le (sumB G) m
    clear hs
    go_enter Try.func23, Try.ntmps23
    go_wp2_with fail
    rw [← HW.out]
    refine c1.mono ?_
    rintro e w1 ⟨rfl, hb1⟩
    have hbz := hbW.trans (hb1.mono hbW.size)
    have hk1 : w1.cell? ⟨w.heap.size, 0, none⟩ = some (.slice a G.length cap) := by rw [hb1.cell (p := ⟨w.heap.size, 0, none⟩) hWs]; exact hc0
    have c2 := spec_l4Small G a cap w1 (hr.below hbz) hsg m (by omega)
    clear c1 hb1 hc0 hr hsg
    rw [Int.toNat_natCast] at HR
    go_wp2_with fail
    refine c2.mono ?_
    rintro e w2 ⟨v, rfl, ho, hb2⟩
    have hbz2 := hbz.trans (hb2.mono hbz.size)
    obtain ⟨a1, k1, rfl, -, -, hs1, -⟩ := SlV.of_owns ho
    clear c2 ho hs1 hb2
    rw [List.length_map] at *
    generalize (upB (sumB G) m).length = q at *
    go_wp2_with fail
    go_ret
    exact ⟨by rw [HR.out]; rfl, hbz2⟩
  · have HR := Lib.hid (show indexN G n = -1 by unfold indexN; rw [decide_eq_false hk]; simp)
    have hgt : (200 : Int) < n := by omega
    clear hr hs
    go_enter Try.func23, Try.ntmps23
    go_wp2_with fail
    rw [← HW.out]
    refine c1.mono ?_
    rintro e w1 ⟨rfl, hb1⟩
    have hbz := hbW.trans (hb1.mono hbW.size)
    go_wp2_with fail
    go_ret
    exact ⟨by rw [HR.out]; rfl, hbz⟩
end Go.Proofs.Ytdjjagpecbflnaa
