/-
  THE DRAW OF SMALL ELEMENTS WITH A CONDUCTOR (chapter 8). (Own work.)
-/
import Derived.Test.YtgkkkmcgnpdchaaDrw13
namespace Go.Proofs.Ytgkkkmcgnpdchaa
open Go Go.RowKit

theorem own_prefix {w : World} {base : Nat} {e : TypeId} {g n cap m : Nat} {xs : List Value} (h : w.ownsRow base e 1 (.slice (some ⟨g, 0, none⟩) n cap) n xs) (hm : m ≤ n) :
    w.ownsRow base e 1 (.slice (some ⟨g, 0, none⟩) m cap) m (xs.take m) := by
  obtain ⟨hx, hv | ⟨g', cap', cur, hv, h1, h2, h3, h4, h5, h6⟩⟩ := h
  · cases hv.1
  · injection hv with hv hv2 hv3
    injection hv with hv
    injection hv with hv
    subst hv hv3
    refine ⟨by rw [List.length_take]; omega, .inr ⟨g, cap, cur, rfl, h1, h2, by omega, h4, h5, ?_⟩⟩
    rw [← h6, List.take_take]
    congr 1
    omega
theorem smallL_small {G : List Int} (h : isSgB G = true) : ∀ x ∈ smallL G, 0 ≤ x ∧ x ≤ 200 := by
  intro x hx
  unfold smallL at hx
  rw [if_pos h, List.mem_map] at hx
  obtain ⟨a, ha, rfl⟩ := hx
  have h1 := (mem_upB.1 ha).1
  have h2 := condNat_le G
  simp only [Int.ofNat_eq_natCast]
  omega

set_option maxRecDepth 100000 in
set_option maxHeartbeats 3200000 in
theorem DrawFromElements_any (W : World) (a : Option Addr) (len cap : Nat) (zs : List Int) (hr : IsRow .u8 W a len cap zs) (hl : len ≤ 1048576) :
    Calls Try.prog 30 #[.slice a len cap] W (D1i 200 InI64 W) := by
  have cn := l1New_any W a len cap zs hr hl
  clear hr
  go_enter Try.func30, Try.ntmps30
  go_wp2_with fail
  refine cn.mono ?_
  rintro e w1 ⟨N, rfl, hd⟩
  have hNb := hd.base
  have hW1 := hd.bel.size
  clear cn
  go_wp2_with fail
  refine (l3Draw_dr hd).mono ?_
  rintro e w2 ⟨L, v, hsg, rfl, ho, hd2, hg2⟩
  obtain ⟨av, cv, rfl, rX⟩ := row_open ho
  have hl12 := (isSgB_iff.1 hsg).len
  obtain ⟨w3, hw3⟩ : ∃ w3, w3 = w2.alloc (.cells #[.slice av L.length cv] 26) := ⟨_, rfl⟩
  have hB3 : Arr w3 w2.heap.size 26 [.slice av L.length cv] := by rw [hw3]; exact Arr.new w2 26 [.slice av L.length cv]
  have hs3 : SlV w3 av (L.map (Value.int .i64)) := by rw [hw3]; exact rX.slv.below (box_below w2 _)
  have hd3 : Dr W w3 N a len cap zs := by rw [hw3]; exact hd2.alloc _
  have c4 := spec_SmallElements L av cv w3 hs3 (by omega)
  have c5 := fun w' (h : Below w3.heap.size w3 w') => spec_ConductorOf L av cv w' (hs3.below h) (by omega)
  have HW3 := Lib.hid hw3
  have hlB := hB3.lt
  have hcb := hB3.cell 0
  rw [HW3.out] at hcb
  have HM := Lib.hid (smallL_small hsg)
  have hML := smallL_len L
  have hcN : 0 ≤ condN L ∧ condN L ≤ 200 := by rw [condN_yes hsg]; have := condNat_le L; omega
  have hW3 := hd3.bel.size
  have hN3 := hd3.lt
  clear hd hg2 ho rX hsg hd2 hw3 hs3
  go_wp2_with fail
  rw [← HW3.out]
  refine c4.mono ?_
  rintro e w4 ⟨v4, rfl, ho4, hb4⟩
  have hd4 := hd3.belowW hb4
  have hB4 := hB3.below hb4
  have hz4 : w3.heap.size ≤ w4.heap.size := hb4.size
  have c6 := c5 w4 hb4
  have hcb4 := hB4.cell 0
  clear c4 c5 hb4 hd3 hB3 hcb
  generalize smallL L = M at *
  generalize condN L = n at *
  go_wp2_with fail
  refine c6.mono ?_
  rintro e w5 ⟨rfl, hb5⟩
  have hd5 := hd4.belowW hb5
  have hown5 := owns_below ho4 hb5
  have hz5 : w4.heap.size ≤ w5.heap.size := hb5.size
  clear c6 hb5 hd4 ho4 hcb4 hB4
  go_wp2_with fail
  refine (l1Below_dr hd5 6 (by decide)).mono ?_
  rintro e w6 ⟨x6, ⟨hx60, hx6⟩, rfl, hd6, hg6⟩
  have hown6 := row_kept hown5 (fun j hj => hg6.block j (hown5.lt j hj).2 (fun e => by injection e with e; have := (hown5.lt j hj).1; omega))
  have hz6 := hg6.size
  have hcs : x6 = 0 ∨ x6 = 1 ∨ (x6 == 0) = false ∧ (x6 == 1) = false := by
    by_cases h0 : x6 = 0
    · exact .inl h0
    · by_cases h1 : x6 = 1
      · exact .inr (.inl h1)
      · exact .inr (.inr ⟨by rw [beq_eq_false_iff_ne]; exact h0, by rw [beq_eq_false_iff_ne]; exact h1⟩)
  clear hx6 hx60 hd5 hg6 hown5
  have HD : Hid (D1i 200 InI64 W (.returned (.tuple #[v4, .int .i64 n])) w6) := Lib.hid ⟨M, v4, n, hML, fun x hx => by have := HM.out x hx; unfold InI64; omega, by unfold InI64; omega, rfl, ownsBase hown6 hW3, hd6.bel⟩
  rcases hcs with rfl | rfl | ⟨he0, he1⟩
  · clear HD
    go_wp2_with fail
    refine (l1Below_dr hd6 3 (by decide)).mono ?_
    rintro e w7 ⟨x7, ⟨hx70, hx7⟩, rfl, hd7, hg7⟩
    have hx7b : x7 < 3 := by omega
    have hown7 := row_kept hown6 (fun j hj => hg7.block j (hown6.lt j hj).2 (fun e => by injection e with e; have := (hown6.lt j hj).1; omega))
    have hw1 : IntKind.i64.wrap (n + x7) = n + x7 := IntWalk.i64_in _ (by omega)
    have hw2 : IntKind.i64.wrap (n + x7 - 1) = n + x7 - 1 := IntWalk.i64_in _ (by omega)
    have HD : Hid (D1i 200 InI64 W (.returned (.tuple #[v4, .int .i64 (n + x7 - 1)])) w7) := Lib.hid ⟨M, v4, n + x7 - 1, hML, fun x hx => by have := HM.out x hx; unfold InI64; omega, by unfold InI64; omega, rfl, ownsBase hown7 hW3, hd7.bel⟩
    clear hx7 hx70 hx7b hd6 hg7 hown6 hown7
    go_wp2_with fail
    exact bodyPost_ret (v := .tuple #[v4, .int .i64 (n + x7 - 1)]) (by simp [results, Try.results30, go_sem]) rfl HD.out
  · by_cases hM1 : 1 < M.length
    · rcases hown6.2 with ⟨rfl, h0⟩ | ⟨g, c5, cur, rfl, -, -, hnc, -⟩
      · omega
      · have hM1i : (1 : Int) < (M.length : Int) := by omega
        obtain ⟨l1, hl1⟩ : ∃ l1, M.length = l1 + 1 := ⟨M.length - 1, by omega⟩
        have hpre := own_prefix hown6 (m := l1) (by omega)
        rw [← List.map_take] at hpre
        have htl : (M.take l1).length = l1 := by rw [List.length_take]; omega
        have HD : Hid (D1i 200 InI64 W (.returned (.tuple #[.slice (some ⟨g, 0, none⟩) l1 c5, .int .i64 n])) w6) := Lib.hid ⟨M.take l1, _, n, by omega, fun x hx => by have := HM.out x (List.mem_of_mem_take hx); unfold InI64; omega, by unfold InI64; omega, rfl, by rw [htl]; exact ownsBase hpre hW3, hd6.bel⟩
        have hwl : (M.length : Int) - 1 = (l1 : Int) := by omega
        have hi0 : (0 : Int) ≤ (l1 : Int) := by omega
        have hi1 : (l1 : Int) ≤ (c5 : Int) := by omega
        clear hpre htl hown6 hl1
        go_wp2_with fail
        exact bodyPost_ret (v := .tuple #[.slice (some ⟨g, 0, none⟩) l1 c5, .int .i64 n]) (by simp [results, Try.results30, go_sem]) rfl HD.out
    · have hM1d : decide ((1 : Int) < (M.length : Int)) = false := decide_eq_false (by omega)
      have hM1e : decide (1 < M.length) = false := decide_eq_false (by omega)
      obtain ⟨a4, c4, rfl, -⟩ := row_open hown6
      clear hown6 hM1
      go_wp2_with fail
      exact bodyPost_ret (v := .tuple #[.slice a4 M.length c4, .int .i64 n]) (by simp [results, Try.results30, go_sem]) rfl HD.out
  · clear hown6
    go_wp2_with fail
    exact bodyPost_ret (v := .tuple #[v4, .int .i64 n]) (by simp [results, Try.results30, go_sem]) rfl HD.out
end Go.Proofs.Ytgkkkmcgnpdchaa
