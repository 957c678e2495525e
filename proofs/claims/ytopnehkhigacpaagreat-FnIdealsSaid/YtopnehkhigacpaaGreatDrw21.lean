/-
  DRAWS OF CHAPTER 16: l16Draw, DrawInIdeal (written by mkD21.py). (Own work.)
-/
import Derived.Test.YtopnehkhigacpaaGreatDrw19
namespace Go.Proofs.YtopnehkhigacpaaGreat
open Go Go.RowKit

def Idl (x : Int) : Prop := -6 ≤ x ∧ x ≤ 17
theorem Idl.in64 {x : Int} (h : Idl x) : InI64 x := by unfold Idl at h; unfold InI64; omega
def idlL : List Int := [200, 201, -200, -201]
theorem idlL_in : ∀ x ∈ idlL, InI64 x := by unfold InI64; decide

set_option maxRecDepth 100000 in
set_option maxHeartbeats 1600000 in
theorem l16Draw_dr {W w : World} {N : Nat} {a : Option Addr} {len cap : Nat} {zs : List Int} (hd : Dr W w N a len cap zs) :
    Calls Tryz.prog 26 #[.pointer (some ⟨N, 0, none⟩)] w (DrewL 5 InI64 W w N a len cap zs) := by
  obtain ⟨i0, hi, hz0, hz1, hz2⟩ := info_parts infoIntL
  have hlt := hd.lt
  go_enter Tryz.func26, Tryz.ntmps26
  go_wp2_with fail
  refine (l1Below_dr (hd.alloc _) 4 (by decide)).mono ?_
  rintro e w1 ⟨x, ⟨hx0, hx⟩, rfl, hd1, hg1⟩
  obtain ⟨n, rfl⟩ := Int.eq_ofNat_of_zero_le hx0
  have hn : n ≤ 3 := by omega
  have hnw : IntKind.i64.wrap (1 + (n : Int)) = 1 + (n : Int) := IntWalk.i64_in _ (by omega)
  have hown0 : (w.alloc (.cells #[] 3)).ownsRow w.heap.size 3 1 (.slice (some ⟨w.heap.size, 0, none⟩) 0 0) 0 [] := World.ownsRow_lit w #[] 0 (Nat.le_refl _) (by simp) rfl
  have hown1 : w1.ownsRow w.heap.size 3 1 (.slice (some ⟨w.heap.size, 0, none⟩) 0 0) 0 [] := hown0.kept hg1 (.inr (by simp [Value.ownBlock]; omega))
  have hgw : w.grownBy w1 (some N) := grown_more (grown_alloc (grown_refl w (some N)) _) hg1 (fun k hk => by cases hk; exact .inr rfl)
  clear hx hx0 hd hg1 hown0
  go_wp2_with fail
  go_loopw [3, 5] (fun v i wr => ∃ (k : Nat) (L : List Int), k ≤ n + 1 ∧ i = .int .i64 (k : Int) ∧ L.length = k ∧ (∀ x ∈ L, Idl x) ∧
      wr.ownsRow w.heap.size 3 1 v L.length (L.map (Value.int .i64)) ∧ Dr W wr N a len cap zs ∧ w.grownBy wr (some N)) (fun _ i _ => n + 1 - (intOf i).toNat)
  case atStart => exact ⟨0, [], Nat.zero_le _, rfl, rfl, by simp, hown1, hd1, hgw⟩
  case round =>
    clear hown1 hd1 hgw
    obtain ⟨k, L, hk, rfl, hLk, hT, hown, hd, hgw⟩ := hrel
    have HL := Lib.hid hLk
    have HT := Lib.hid hT
    have hL5 : L.length ≤ 4 := by omega
    have hsz := hgw.size
    clear hLk hT
    by_cases hkn : k < n + 1
    · have hkn' : (k : Int) < 1 + (n : Int) := by omega
      go_wp2_with fail
      refine (l1Below_dr hd 24 (by decide)).mono ?_
      rintro e w2 ⟨x, ⟨hx0, hx⟩, rfl, hd2, hg2⟩
      have hx1 : x < 24 := by omega
      have hlow := hown.lt
      have hown2 := row_kept hown fun j hj => hg2.block j (hlow j hj).2 (fun e => by injection e with e; have := (hlow j hj).1; omega)
      have hgw2 := grown_trans hgw hg2
      have hsz2 := hgw2.size
      have hxw : IntKind.i64.wrap (x - 6) = x - 6 := IntWalk.i64_in _ (by omega)
      clear hx hown hd hg2 hgw hlow
      go_wp2_with (at_builtin; refine wpList_append_own _ rfl _ _ 24 rfl w.heap.size 3 i0 (Value.int .i64 0) 1 8 Tryz.underlying24 hi hz0 hz1 hz2 rfl (by decide) _ _ _ rfl (hown2.alloc _) ⟨_, 0, none⟩ 1 1 [.int .i64 (x - 6)] rfl rfl (World.news_of_block (cs := #[.int .i64 (x - 6)]) (t := 3) (fr := (0, 0)) (heap_alloc_new _ _)) (by simp [Value.oneCell']) (by unfold maxLen; omega) (by omega) (by simp; omega) ?_; intro v3 w3 hown3 hgr3 _)
      have hlow2 := hown2.lt
      have hd3 : Dr W w3 N a len cap zs := (hd2.alloc _).grownR hgr3 (fun j hj => by have := (hlow2 j hj).1; have := hd2.base; omega)
      have hgw3 : w.grownBy w3 (some N) := grown_more (grown_alloc hgw2 _) hgr3 (fun j hj => .inl (hlow2 j hj).1)
      have HO := Lib.hid hown3
      clear hown2 hd2 hown3 hgr3 hgw2 hlow2
      go_wp2_with fail
      go_roundw
      case rel =>
        refine ⟨k + 1, L ++ [x - 6], by omega, by go_num, by have := HL.out; simp; omega, ?_, by have := HO.out; simpa using this, hd3, hgw3⟩
        intro y hy
        rcases List.mem_append.1 hy with h | h
        · exact HT.out y h
        · rw [List.mem_singleton.1 h]; unfold Idl; omega
      case measure => simp [intOf]; omega
    · have hkn' : ¬ (k : Int) < 1 + (n : Int) := by omega
      have HO := Lib.hid hown
      have hlow := hown.lt
      clear hown
      go_wp2_with fail
      refine (l1Below_dr hd 16 (by decide)).mono ?_
      rintro e w2 ⟨x, ⟨hx0, hx⟩, rfl, hd2, hg2⟩
      have hx1 : x < 16 := by omega
      have hgw2 := grown_trans hgw hg2
      have HO2 := Lib.hid (row_kept HO.out fun j hj => hg2.block j (hlow j hj).2 (fun e => by injection e with e; have := (hlow j hj).1; omega))
      have hsz2 := hgw2.size
      clear hx hd hg2 hgw HO hlow
      by_cases h0 : x = 0
      · subst h0
        have hown0 : (w2.alloc (.cells #[] 3)).ownsRow w.heap.size 3 1 (.slice (some ⟨w2.heap.size, 0, none⟩) 0 0) 0 [] := World.ownsRow_lit w2 #[] 0 hsz2 (by simp) rfl
        clear HO2
        go_wp2_with fail
        go_ret
        exact ⟨[], _, by simp, by simp, rfl, hown0, hd2.alloc _, grown_alloc hgw2 _⟩
      · by_cases h1 : x = 1
        · subst h1
          have hlt2 := hd2.lt
          have hgw := hgw2
          clear hgw2 h0
          go_wp2_with fail
          refine (l1PickInt_dr (hd2.alloc _) idlL w2.heap.size 4 (by decide) (by decide) (by simp) (by omega) ?_).mono ?_
          · intro i u h
            rw [cell_new]
            exact h
          rintro e w3 ⟨x, hx, rfl, hd3, hg3⟩
          have hx64 := idlL_in x hx
          have hlow2 := HO2.out.lt
          have hown3 := row_kept (w := w2.alloc _) (w' := w3) (HO2.out.alloc _) fun j hj => hg3.block j (by have := (hlow2 j hj).2; simp; omega) (fun e => by injection e with e; have := (hlow2 j hj).1; omega)
          have hgw3 := grown_trans (grown_alloc hgw (.cells #[.int .i64 200, .int .i64 201, .int .i64 (-200), .int .i64 (-201)] 3)) hg3
          have hsz3 := hgw3.size
          clear hx hd2 hg3 HO2 hgw hlow2
          go_wp2_with (at_builtin; refine wpList_append_own _ rfl _ _ 24 rfl w.heap.size 3 i0 (Value.int .i64 0) 1 8 Tryz.underlying24 hi hz0 hz1 hz2 rfl (by decide) _ _ _ rfl (hown3.alloc _) ⟨_, 0, none⟩ 1 1 [.int .i64 x] rfl rfl (World.news_of_block (cs := #[.int .i64 x]) (t := 3) (fr := (0, 0)) (heap_alloc_new _ _)) (by simp [Value.oneCell']) (by unfold maxLen; omega) (by omega) (by simp; omega) ?_; intro v4 w4 hown4 hgr4 _)
          have hlow3 := hown3.lt
          have hd4 : Dr W w4 N a len cap zs := (hd3.alloc _).grownR hgr4 (fun j hj => by have := (hlow3 j hj).1; have := hd3.base; omega)
          have hgw4 : w.grownBy w4 (some N) := grown_more (grown_alloc hgw3 _) hgr4 (fun j hj => .inl (hlow3 j hj).1)
          have HO4 := Lib.hid hown4
          clear hown3 hd3 hown4 hgr4 hgw3 hlow3
          go_wp2_with fail
          go_ret
          refine ⟨L ++ [x], v4, by simp; omega, ?_, rfl, by have := HO4.out; simpa using this, hd4, hgw4⟩
          intro y hy
          rcases List.mem_append.1 hy with h | h
          · exact (HT.out y h).in64
          · rw [List.mem_singleton.1 h]; exact hx64
        · have hd0 : (x == 0) = false := by simpa using h0
          have hd1 : (x == 1) = false := by simpa using h1
          go_wp2_with fail
          go_ret
          exact ⟨L, _, by omega, fun x h => (HT.out x h).in64, rfl, HO2.out, hd2, hgw2⟩

def DSgLn (W : World) (e : Ending) (w' : World) : Prop :=
  ∃ (L : List Int) (av : Option Addr) (cv : Nat) (M : List Int) (bv : Option Addr) (dv : Nat) (n : Int), L.length ≤ 13 ∧ (∀ x ∈ L, InI64 x) ∧ M.length ≤ 5 ∧ (∀ x ∈ M, InI64 x) ∧ InI64 n ∧ e = .returned (.tuple #[.agg #[.slice av L.length cv], .slice bv M.length dv, .int .i64 n]) ∧ SlW w' av cv (L.map (Value.int .i64)) ∧ SlW w' bv dv (M.map (Value.int .i64)) ∧ Below W.heap.size W w'

def DSgLnF (W : World) (e : Ending) (w' : World) : Prop :=
  ∃ (L : List Int) (av : Option Addr) (cv : Nat) (M : List Int) (bv : Option Addr) (dv : Nat) (n : Int), L.length ≤ 13 ∧ (∀ x ∈ L, InI64 x) ∧ M.length ≤ 5 ∧ (∀ x ∈ M, InI64 x) ∧ InI64 n ∧ e = .returned (.tuple #[.agg #[.slice av L.length cv], .slice bv M.length dv, .int .i64 n]) ∧ SlW w' av cv (L.map (Value.int .i64)) ∧ SlW w' bv dv (M.map (Value.int .i64)) ∧ (∀ p, av = some p → W.heap.size < p.block) ∧ (∀ p, bv = some p → W.heap.size < p.block) ∧ Below W.heap.size W w'

set_option maxRecDepth 100000 in
set_option maxHeartbeats 3200000 in
theorem DrawInIdeal_anyF (W : World) (a : Option Addr) (len cap : Nat) (zs : List Int) (hr : IsRow .u8 W a len cap zs) (hl : len ≤ 1048576) :
    Calls Tryz.prog 5 #[.slice a len cap] W (DSgLnF W) := by
  have hb0 := box_below W (.cells #[.slice none 0 0] 26)
  have hA0 := Arr.new W 26 [.slice none 0 0]
  have cn := l1New_any (W.alloc (.cells #[.slice none 0 0] 26)) a len cap zs (hr.below hb0) hl
  have hsz : W.heap.size < (W.alloc (.cells #[.slice none 0 0] 26)).heap.size := hA0.lt
  clear hr
  go_enter Tryz.func5, Tryz.ntmps5
  go_wp2_with fail
  refine cn.mono ?_
  rintro e w1 ⟨N, rfl, hd⟩
  have hNb := hd.base
  have hN1 := hd.lt
  have hA1 := hA0.below hd.bel
  have hb1 := hb0.trans (hd.bel.mono (Nat.le_of_lt hsz))
  have hz1 := hd.bel.size
  clear cn hA0
  go_wp2_with fail
  refine (l3Bent_dr hd).mono ?_
  rintro e w2 ⟨L, av, cv, hl13, hI, rfl, hs, hf, hd2, hg2⟩
  have HI := Lib.hid hI
  have hrN : W.heap.size ≠ N := by omega
  have hbN : w2.heap.size ≠ N := by have := hg2.size; omega
  have hR2 := hA1.grownN hg2 hrN
  have hb2 := hb1.grown hg2 hb1.size (fun k hk => by cases hk; omega)
  have hz2 := hg2.size
  have hB3 := Arr.new w2 26 [.slice av L.length cv]
  obtain ⟨w3, hw3⟩ : ∃ w3, w3 = w2.alloc (.cells #[.slice av L.length cv] 26) := ⟨_, rfl⟩
  have hd3 : Dr (W.alloc (.cells #[.slice none 0 0] 26)) w3 N a len cap zs := by rw [hw3]; exact hd2.alloc _
  have hR3 : Arr w3 W.heap.size 26 [.slice none 0 0] := by rw [hw3]; exact hR2.alloc _
  have hB3' : Arr w3 w2.heap.size 26 [.slice av L.length cv] := by rw [hw3]; exact hB3
  have hs3 : SlW w3 av cv (L.map (Value.int .i64)) := by rw [hw3]; exact hs.below (box_below w2 _)
  have hb3 : Below W.heap.size W w3 := by rw [hw3]; exact hb2.alloc hb2.size _
  have hcb : w3.drew.cell? ⟨w2.heap.size, 0, none⟩ = some (.slice av L.length cv) := hB3'.cell 0
  have HW3 := Lib.hid hw3
  have hNl := hd3.lt
  clear hw3 hI hd hd2 hg2 hA1 hb0 hb1 hb2 hR2 hB3 hs hcb
  go_wp2_with fail
  rw [← HW3.out]
  refine (l16Draw_dr hd3).mono ?_
  rintro e w4 ⟨M, v, hM5, hIM, rfl, hown, hd4, hg4⟩
  obtain ⟨bv, dv, rfl, rM⟩ := row_open hown
  obtain ⟨hsM, hfM⟩ := SlW.of_owns hown
  have HIM := Lib.hid hIM
  have hz4 : w3.heap.size ≤ w4.heap.size := hg4.size
  have hz3 : w2.heap.size < w3.heap.size := hB3'.lt
  have hNs : ∀ p, av = some p → p.block ≠ N := fun p hp => by have := hf p hp; omega
  have hWN : W.heap.size ≤ N := by omega
  have hNsM : ∀ p, bv = some p → p.block ≠ N := fun p hp => by have := hfM p hp; omega
  have hB4 := hB3'.grownN hg4 hbN
  have hR4 := hR3.grownN hg4 hrN
  have hs4 := hs3.grownN hg4 hNs
  have hb4 := hb3.grown hg4 hb3.size (fun k hk => by cases hk; exact hWN)
  have hcb : w4.drew.cell? ⟨w2.heap.size, 0, none⟩ = some (.slice av L.length cv) := hB4.cell 0
  have hdd : Dr (W.alloc (.cells #[.slice none 0 0] 26)) w4.drew N a len cap zs := hd4.drewN 1
  have hR4d : Arr w4.drew W.heap.size 26 [.slice none 0 0] := hR4
  have hs4d : SlW w4.drew av cv (L.map (Value.int .i64)) := ⟨hs4.sl, hs4.nil0, hs4.le, hs4.mx⟩
  have hM4d : SlW w4.drew bv dv (M.map (Value.int .i64)) := ⟨hsM.sl, hsM.nil0, hsM.le, hsM.mx⟩
  have hb4d : Below W.heap.size W w4.drew := hb4.drew
  have pk : ∀ (x5 x6 : Int) (w6 : World), Dr (W.alloc (.cells #[.slice none 0 0] 26)) w6 N a len cap zs → Calls Tryz.prog 27 #[.pointer (some ⟨N, 0, none⟩), .slice (some ⟨w6.heap.size, 0, none⟩) 3 3] (w6.alloc (.cells #[.int .i64 (x5 - 10), .int .i64 (x6 - 10), .int .i64 1000001] 3)) fun e w' => ∃ x ∈ ([x5 - 10, x6 - 10, 1000001] : List Int), e = .returned (.int .i64 x) ∧ Dr (W.alloc (.cells #[.slice none 0 0] 26)) w' N a len cap zs ∧ (w6.alloc (.cells #[.int .i64 (x5 - 10), .int .i64 (x6 - 10), .int .i64 1000001] 3)).grownBy w' (some N) := fun x5 x6 w6 hd6 => l1PickInt_dr (hd6.alloc (.cells #[.int .i64 (x5 - 10), .int .i64 (x6 - 10), .int .i64 1000001] 3)) [x5 - 10, x6 - 10, 1000001] w6.heap.size 3 (by simp) (by simp) (by simp) (by have := hd6.lt; omega) (fun i u h => ((Arr.new w6 3 (([x5 - 10, x6 - 10, 1000001] : List Int).map (Value.int .i64))).cell i).trans h)
  clear hown rM hIM hd4 hg4 hB4 hR4 hs4 hb4 hsM hB3' hR3 hs3 hb3 hd3
  go_wp2_with fail
  refine wp_region_held_drew (S := fun w' => w'.cell? ⟨w2.heap.size, 0, none⟩ = some (.slice av L.length cv)) (by kernel_rfl) hcb (fun hHeld => ?_)
  refine held_take 0 _ _ rfl (by kernel_rfl) (by kernel_rfl) (by kernel_rfl) (fun _ _ _ h => h) (by rfl) hHeld (fun w hSw => by (try dsimp only at hSw); go_simp; try with_reducible rfl) ?_
  (try simp only [Act.put, List.setIfInBounds_toArray, List.set_cons_zero, List.set_cons_succ, List.getElem_toArray, List.getElem_cons_zero])
  refine held_take 1 _ _ rfl (by kernel_rfl) (by kernel_rfl) (by kernel_rfl) (fun _ _ _ h => h) (by rfl) hHeld (fun w hSw => by (try dsimp only at hSw); go_simp; try with_reducible rfl) ?_
  (try simp only [Act.put, List.setIfInBounds_toArray, List.set_cons_zero, List.set_cons_succ, List.getElem_toArray, List.getElem_cons_succ, List.getElem_cons_zero])
  refine held_take 2 _ _ rfl (by kernel_rfl) (by kernel_rfl) (by kernel_rfl) (fun _ _ _ h => h) (by rfl) hHeld (fun w hSw => by (try dsimp only at hSw); go_simp; try with_reducible rfl) ?_
  (try simp only [Act.put, List.setIfInBounds_toArray, List.set_cons_zero, List.set_cons_succ, List.getElem_toArray, List.getElem_cons_succ, List.getElem_cons_zero])
  refine held_take 3 _ _ rfl (by kernel_rfl) (by kernel_rfl) (by kernel_rfl) (fun _ _ _ h => h) (by rfl) hHeld (fun w hSw => by (try dsimp only at hSw); go_simp; try with_reducible rfl) ?_
  (try simp only [Act.put, List.setIfInBounds_toArray, List.set_cons_zero, List.set_cons_succ, List.getElem_toArray, List.getElem_cons_succ, List.getElem_cons_zero])
  refine held_take 6 _ _ rfl (by kernel_rfl) (by kernel_rfl) (by kernel_rfl) (fun _ _ _ h => h) (by rfl) hHeld (fun w hSw => by (try dsimp only at hSw); go_simp; try with_reducible rfl) ?_
  (try simp only [Act.put, List.setIfInBounds_toArray, List.set_cons_zero, List.set_cons_succ, List.getElem_toArray, List.getElem_cons_succ, List.getElem_cons_zero])
  refine wpAnyH_ready (rs := [4]) (by kernel_rfl) (by simp) ?_
  refine AllReadyH.cons rfl (fun K hK => ?_) AllReadyH.nil
  rw [if_pos (by rfl)]
  go_wp2_with (first | (go_at_call 28; (with_reducible refine (l1Below_dr hdd 50 (by decide)).mono ?_); rintro e w5 ⟨x5, ⟨hx50, hx5⟩, rfl, hd5, hg5⟩; have hx5b : x5 < 50 := (by omega); clear hx5; have hz5' : w4.heap.size ≤ w5.heap.size := hg5.size; have hxw5 : IntKind.i64.wrap (x5 - 10) = x5 - 10 := IntWalk.i64_in _ (by omega)))
  refine hK.out _ _ ((grown_cell (w := w4.drew) hg5 (by show w2.heap.size < w4.heap.size; omega) hbN).trans hHeld) (fun hHeld1 => ?_)
  clear hK K
  (try simp only [Act.put, List.setIfInBounds_toArray, List.set_cons_zero, List.set_cons_succ, List.getElem_toArray, List.getElem_cons_succ, List.getElem_cons_zero])
  refine held_take 5 _ _ rfl (by kernel_rfl) (by kernel_rfl) (by kernel_rfl) (fun _ _ _ h => h) (by rfl) hHeld1 (fun w hSw => by (try dsimp only at hSw); go_simp; try with_reducible rfl) ?_
  (try simp only [Act.put, List.setIfInBounds_toArray, List.set_cons_zero, List.set_cons_succ, List.getElem_toArray, List.getElem_cons_succ, List.getElem_cons_zero])
  refine wpAnyH_ready (rs := [7]) (by kernel_rfl) (by simp) ?_
  refine AllReadyH.cons rfl (fun K hK => ?_) AllReadyH.nil
  rw [if_pos (by rfl)]
  go_wp2_with (first | (go_at_call 28; (with_reducible refine (l1Below_dr hd5 50 (by decide)).mono ?_); rintro e w6 ⟨x6, ⟨hx60, hx6⟩, rfl, hd6, hg6⟩; have hx6b : x6 < 50 := (by omega); clear hx6; have hz6' : w5.heap.size ≤ w6.heap.size := hg6.size; have hxw6 : IntKind.i64.wrap (x6 - 10) = x6 - 10 := IntWalk.i64_in _ (by omega)))
  refine hK.out _ _ ((grown_cell (w := w5) hg6 (by show w2.heap.size < w5.heap.size; omega) hbN).trans hHeld1) (fun hHeld2 => ?_)
  clear hK K
  (try simp only [Act.put, List.setIfInBounds_toArray, List.set_cons_zero, List.set_cons_succ, List.getElem_toArray, List.getElem_cons_succ, List.getElem_cons_zero])
  refine held_take 8 _ _ rfl (by kernel_rfl) (by kernel_rfl) (by kernel_rfl) (fun _ _ _ h => h) (by rfl) hHeld2 (fun w hSw => by (try dsimp only at hSw); go_simp; try with_reducible rfl) ?_
  (try simp only [Act.put, List.setIfInBounds_toArray, List.set_cons_zero, List.set_cons_succ, List.getElem_toArray, List.getElem_cons_succ, List.getElem_cons_zero])
  refine wpAnyH_ready (rs := [9]) (by kernel_rfl) (by simp) ?_
  refine AllReadyH.cons rfl (fun K hK => ?_) AllReadyH.nil
  rw [if_pos (by rfl)]
  go_wp2_with fail
  refine hK.out _ _ ((by rw [World.cell?_alloc_lt _ _ _ (show w2.heap.size < w6.heap.size by omega)]; exact hHeld2)) (fun hHeld3 => ?_)
  clear hK K
  (try simp only [Act.put, List.setIfInBounds_toArray, List.set_cons_zero, List.set_cons_succ, List.getElem_toArray, List.getElem_cons_succ, List.getElem_cons_zero])
  refine wpAnyH_ready (rs := [10]) (by kernel_rfl) (by simp) ?_
  refine AllReadyH.cons rfl (fun K hK => ?_) AllReadyH.nil
  rw [if_pos (by rfl)]
  go_wp2_with (first | (go_at_call 27; (with_reducible refine (pk x5 x6 w6 hd6).mono ?_); rintro e w7 ⟨y, hy, rfl, hd7, hg7⟩; have hz7' : w6.heap.size + 1 ≤ w7.heap.size := (by have := hg7.size; simp at this; omega); have hR7 := ((((hR4d.grownN hg5 hrN).grownN hg6 hrN).alloc (.cells #[.int .i64 (x5 - 10), .int .i64 (x6 - 10), .int .i64 1000001] 3)).grownN hg7 hrN); have hcr7 : w7.cell? ⟨W.heap.size, 0, none⟩ = some (.slice none 0 0) := hR7.cell 0; have hfr7 := hR7.frozen 0))
  refine hK.out _ _ ((grown_cell hg7 (by simp; omega) hbN).trans hHeld3) (fun hHeld4 => ?_)
  clear hK K
  (try simp only [Act.put, List.setIfInBounds_toArray, List.set_cons_zero, List.set_cons_succ, List.getElem_toArray, List.getElem_cons_succ, List.getElem_cons_zero])
  refine wpAnyH_ready (rs := [11]) (by kernel_rfl) (by simp) ?_
  refine AllReadyH.cons rfl (fun K hK => ?_) AllReadyH.nil
  rw [if_pos (by rfl)]
  go_wp2_with fail
  refine hK.out _ _ ((World.cell?_setCell_other _ _ _ _ (by first | (simp; done) | (simp; omega))).trans hHeld4) (fun hHeld5 => ?_)
  clear hK K
  (try simp only [Act.put, List.setIfInBounds_toArray, List.set_cons_zero, List.set_cons_succ, List.getElem_toArray, List.getElem_cons_succ, List.getElem_cons_zero])
  refine held_take 12 _ _ rfl (by kernel_rfl) (by kernel_rfl) (by kernel_rfl) (fun _ _ _ h => h) (by rfl) hHeld5 (fun w hSw => by (try dsimp only at hSw); go_simp; try with_reducible rfl) ?_
  (try simp only [Act.put, List.setIfInBounds_toArray, List.set_cons_zero, List.set_cons_succ, List.getElem_toArray, List.getElem_cons_succ, List.getElem_cons_zero])
  refine held_take 13 _ _ rfl (by kernel_rfl) (by kernel_rfl) (by kernel_rfl) (fun _ _ _ h => h) (by rfl) hHeld5 (fun w hSw => by (try dsimp only at hSw); go_simp; try with_reducible rfl) ?_
  (try simp only [Act.put, List.setIfInBounds_toArray, List.set_cons_zero, List.set_cons_succ, List.getElem_toArray, List.getElem_cons_succ, List.getElem_cons_zero])
  refine wpAnyH_done (by kernel_rfl) ?_ _
  have hs7 := ((((hs4d.grownN hg5 hNs).grownN hg6 hNs).below (box_below w6 (.cells #[.int .i64 (x5 - 10), .int .i64 (x6 - 10), .int .i64 1000001] 3))).grownN hg7 hNs)
  have hM7 := ((((hM4d.grownN hg5 hNsM).grownN hg6 hNsM).below (box_below w6 (.cells #[.int .i64 (x5 - 10), .int .i64 (x6 - 10), .int .i64 1000001] 3))).grownN hg7 hNsM)
  have hb5 := hb4d.grown hg5 hb4d.size (fun k hk => by cases hk; exact hWN)
  have hb6 := hb5.grown hg6 hb5.size (fun k hk => by cases hk; exact hWN)
  have hb6' := hb6.alloc hb6.size (.cells #[.int .i64 (x5 - 10), .int .i64 (x6 - 10), .int .i64 1000001] 3)
  have hb7 := hb6'.grown hg7 hb6'.size (fun k hk => by cases hk; exact hWN)
  have hy64 : InI64 y := by
    unfold InI64
    simp only [List.mem_cons, List.mem_nil_iff, or_false] at hy
    omega
  have hcf := World.cell?_setCell_same w7 ⟨W.heap.size, 0, none⟩ (.slice av L.length cv) hcr7
  have hz2W : W.heap.size + 1 ≤ w1.heap.size := by first | omega | (have := hN1; omega)
  have hfW : ∀ p, av = some p → W.heap.size < p.block := fun p hp => by have := hf p hp; omega
  have hfMW : ∀ p, bv = some p → W.heap.size < p.block := fun p hp => by have := hfM p hp; omega
  have HF : Hid (DSgLnF W (.returned (.tuple #[.agg #[.slice av L.length cv], .slice bv M.length dv, .int .i64 y])) (w7.setCell ⟨W.heap.size, 0, none⟩ (.slice av L.length cv))) := Lib.hid ⟨L, av, cv, M, bv, dv, y, hl13, HI.out, hM5, HIM.out, hy64, rfl, hs7.grownN (grownBy_setCell w7 W.heap.size 0 _) (fun p hp => by have := hfW p hp; omega), hM7.grownN (grownBy_setCell w7 W.heap.size 0 _) (fun p hp => by have := hfMW p hp; omega), hfW, hfMW, hb7.setCell (Nat.le_refl _) _⟩
  go_wp2_with fail
  exact bodyPost_ret (v := .tuple #[.agg #[.slice av L.length cv], .slice bv M.length dv, .int .i64 y]) (by simp [results, Tryz.results5, go_sem, hcf]) rfl HF.out

theorem DrawInIdeal_any (W : World) (a : Option Addr) (len cap : Nat) (zs : List Int) (hr : IsRow .u8 W a len cap zs) (hl : len ≤ 1048576) :
    Calls Tryz.prog 5 #[.slice a len cap] W (DSgLn W) :=
  (DrawInIdeal_anyF W a len cap zs hr hl).mono fun _ _ ⟨L, av, cv, M, bv, dv, n, h1, h2, h3, h4, h5, h6, h7, h8, _, _, h9⟩ => ⟨L, av, cv, M, bv, dv, n, h1, h2, h3, h4, h5, h6, h7, h8, h9⟩

end Go.Proofs.YtopnehkhigacpaaGreat
