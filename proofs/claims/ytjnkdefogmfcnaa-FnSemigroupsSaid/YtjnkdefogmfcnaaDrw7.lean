/-
  CONTRACTS of the draws DrawGenerates, DrawFromGens.
-/
import Derived.Test.YtjnkdefogmfcnaaDrw6
namespace Go.Proofs.Ytjnkdefogmfcnaa
open Go Go.RowKit

def genPick : List Int := [0, 61, -1]
theorem genPick_in : ∀ x ∈ genPick, InI64 x := by unfold InI64; decide

set_option maxRecDepth 100000 in
set_option maxHeartbeats 3200000 in
theorem DrawGenerates_any (W : World) (a : Option Addr) (len cap : Nat) (zs : List Int) (hr : IsRow .u8 W a len cap zs) (hl : len ≤ 1048576) :
    Calls Try.prog 12 #[.slice a len cap] W (D1i 5 InI64 W) := by
  obtain ⟨i0, hi, hz0, hz1, hz2⟩ := info_parts infoIntL
  have cn := l1New_any W a len cap zs hr hl
  clear hr
  go_enter Try.func12, Try.ntmps12
  go_wp2_with fail
  refine cn.mono ?_
  rintro e w1 ⟨N, rfl, hd⟩
  have hN1 := hd.lt
  have hW1 := hd.bel.size
  have hWN := hd.base
  clear cn
  go_wp2_with fail
  refine (l1Below_dr (hd.alloc _) 3 (by decide)).mono ?_
  rintro e w2 ⟨x, ⟨hx0, hx⟩, rfl, hd2, hg2⟩
  obtain ⟨n, rfl⟩ := Int.eq_ofNat_of_zero_le hx0
  have hn : n < 3 := by omega
  have hown0 : (w1.alloc (.cells #[] 3)).ownsRow w1.heap.size 3 1 (.slice (some ⟨w1.heap.size, 0, none⟩) 0 0) 0 [] := World.ownsRow_lit w1 #[] 0 (Nat.le_refl _) (by simp) rfl
  have hown2 : w2.ownsRow w1.heap.size 3 1 (.slice (some ⟨w1.heap.size, 0, none⟩) 0 0) 0 [] := hown0.kept hg2 (.inr (by simp [Value.ownBlock]; omega))
  have hz2' : w1.heap.size ≤ w2.heap.size := by have := hg2.size; simp at this; omega
  clear hx hx0 hd hg2 hown0
  go_wp2_with fail
  go_loopw [5, 7] (fun v i wr => ∃ (k : Nat) (L : List Int), k ≤ n + 1 ∧ i = .int .i64 (k : Int) ∧ L.length = k ∧ (∀ x ∈ L, InI64 x) ∧
      wr.ownsRow w1.heap.size 3 1 v L.length (L.map (Value.int .i64)) ∧ Dr W wr N a len cap zs ∧ w1.heap.size ≤ wr.heap.size) (fun _ i _ => n + 1 - (intOf i).toNat)
  case atStart => exact ⟨0, [], Nat.zero_le _, rfl, rfl, by simp, hown2, hd2, hz2'⟩
  case round =>
    clear hown2 hd2 hz2'
    obtain ⟨k, L, hk, rfl, hLk, hT, hown, hd, hsz⟩ := hrel
    have HL := Lib.hid hLk
    have HT := Lib.hid hT
    have hL5 : L.length ≤ 3 := by omega
    clear hLk hT
    by_cases hkn : k < n + 1
    · have hkn' : (k : Int) < (n : Int) + 1 := by omega
      go_wp2_with fail
      refine (l1Below_dr hd 15 (by decide)).mono ?_
      rintro e w3 ⟨x, ⟨hx0, hx⟩, rfl, hd3, hg3⟩
      have hx1 : x < 15 := by omega
      have hown3 := row_kept hown fun j hj => hg3.block j (hown.lt j hj).2 (fun e => by injection e with e; have := (hown.lt j hj).1; omega)
      have hsz3 := Nat.le_trans hsz hg3.size
      have hxw : IntKind.i64.wrap (1 + x) = 1 + x := IntWalk.i64_in _ (by omega)
      clear hx hown hd hg3
      go_wp2_with (at_builtin; refine wpList_append_own _ rfl _ _ 24 rfl w1.heap.size 3 i0 (Value.int .i64 0) 1 8 Try.underlying24 hi hz0 hz1 hz2 rfl (by decide) _ _ _ rfl (hown3.alloc _) ⟨_, 0, none⟩ 1 1 [.int .i64 (1 + x)] rfl rfl (World.news_of_block (cs := #[.int .i64 (1 + x)]) (t := 3) (fr := (0, 0)) (heap_alloc_new _ _)) (by simp [Value.oneCell']) (by unfold maxLen; omega) (by omega) (by simp; omega) ?_; intro v4 w4 hown4 hg4 _)
      have hlow := hown3.lt
      have hd4 : Dr W w4 N a len cap zs := (hd3.alloc _).grownR hg4 (fun j hj => by have := (hlow j hj).1; omega)
      have hsz4 : w1.heap.size ≤ w4.heap.size := by have := hg4.size; simp at this; omega
      have HO := Lib.hid hown4
      clear hown3 hd3 hown4 hg4 hlow
      go_wp2_with fail
      go_roundw
      case rel =>
        refine ⟨k + 1, L ++ [1 + x], by omega, by go_num, by have := HL.out; simp; omega, ?_, by have := HO.out; simpa using this, hd4, hsz4⟩
        intro y hy
        rcases List.mem_append.1 hy with h | h
        · exact HT.out y h
        · rw [List.mem_singleton.1 h]; unfold InI64; omega
      case measure => simp [intOf]; omega
    · have hkn' : ¬ (k : Int) < (n : Int) + 1 := by omega
      go_wp2_with fail
      refine (l1Once_dr hd 12 (by decide)).mono ?_
      rintro e w3 ⟨b, rfl, hd3, hg3⟩
      have hown3 := row_kept hown fun j hj => hg3.block j (hown.lt j hj).2 (fun e => by injection e with e; have := (hown.lt j hj).1; omega)
      have hsz3 := Nat.le_trans hsz hg3.size
      clear hown hd hg3
      cases b
      · go_wp2_with fail
        refine (l1Below_dr hd3 60 (by decide)).mono ?_
        rintro e w5 ⟨x5, ⟨hx50, hx5⟩, rfl, hd5, hg5⟩
        have hx5b : x5 < 60 := by omega
        have hown5 := row_kept hown3 fun j hj => hg5.block j (hown3.lt j hj).2 (fun e => by injection e with e; have := (hown3.lt j hj).1; omega)
        clear hx5 hown3 hd3
        go_wp2_with fail
        refine (l1Below_dr hd5 60 (by decide)).mono ?_
        rintro e w7 ⟨x7, ⟨hx70, hx7⟩, rfl, hd7, hg7⟩
        have hx7b : x7 < 60 := by omega
        have hown7 := row_kept hown5 fun j hj => hg7.block j (hown5.lt j hj).2 (fun e => by injection e with e; have := (hown5.lt j hj).1; omega)
        clear hx7 hown5 hd5 hg5
        go_wp2_with fail
        have cpk : Calls Try.prog 42 #[.pointer (some ⟨N, 0, none⟩), .slice (some ⟨w7.heap.size, 0, none⟩) 6 6] (w7.alloc (.cells #[.int .i64 x5, .int .i64 x7, .int .i64 999999, .int .i64 (-1), .int .i64 1000001, .int .i64 3601] 3)) fun e w' => ∃ x ∈ [x5, x7, 999999, -1, 1000001, 3601], e = .returned (.int .i64 x) ∧ Dr W w' N a len cap zs ∧ (w7.alloc (.cells #[.int .i64 x5, .int .i64 x7, .int .i64 999999, .int .i64 (-1), .int .i64 1000001, .int .i64 3601] 3)).grownBy w' (some N) :=
          l1PickInt_dr (hd7.alloc (.cells #[.int .i64 x5, .int .i64 x7, .int .i64 999999, .int .i64 (-1), .int .i64 1000001, .int .i64 3601] 3)) [x5, x7, 999999, -1, 1000001, 3601] w7.heap.size 6 (by simp) (by simp) (by simp) (by have := hd7.lt; omega) (fun i u h => ((Arr.new w7 3 ([x5, x7, 999999, -1, 1000001, 3601].map (Value.int .i64))).cell i).trans h)
        refine cpk.mono ?_
        rintro e w8 ⟨y8, hy8, rfl, hd8, hg8⟩
        have hlo7 := hown7.lt
        have hown8 := row_kept (hown7.alloc (.cells #[.int .i64 x5, .int .i64 x7, .int .i64 999999, .int .i64 (-1), .int .i64 1000001, .int .i64 3601] 3)) fun j hj => hg8.block j (by have := (hlo7 j hj).2; simp; omega) (fun e => by injection e with e; have := (hlo7 j hj).1; omega)
        have hy864 : InI64 y8 := by
          unfold InI64
          simp only [List.mem_cons, List.mem_nil_iff, or_false] at hy8
          omega
        have HF := Lib.hid (ownsBase hown8 hW1)
        clear cpk hown7 hown8 hg8 hd7 hlo7 hy8 hg7
        go_wp2_with fail
        go_ret2
        exact ⟨L, _, y8, by omega, HT.out, hy864, rfl, HF.out, hd8.bel⟩
      · go_wp2_with fail
        have cpk : Calls Try.prog 42 #[.pointer (some ⟨N, 0, none⟩), .slice (some ⟨w3.heap.size, 0, none⟩) 3 3] (w3.alloc (.cells #[.int .i64 0, .int .i64 61, .int .i64 (-1)] 3)) fun e w' => ∃ x ∈ genPick, e = .returned (.int .i64 x) ∧ Dr W w' N a len cap zs ∧ (w3.alloc (.cells #[.int .i64 0, .int .i64 61, .int .i64 (-1)] 3)).grownBy w' (some N) :=
          l1PickInt_dr (hd3.alloc (.cells #[.int .i64 0, .int .i64 61, .int .i64 (-1)] 3)) genPick w3.heap.size 3 (by decide) (by decide) (by simp) (by have := hd3.lt; omega) (fun i u h => ((Arr.new w3 3 (genPick.map (Value.int .i64))).cell i).trans h)
        refine cpk.mono ?_
        rintro e w4 ⟨y, hy, rfl, hd4, hg4⟩
        have hy64 := genPick_in y hy
        have hlo3 := hown3.lt
        have hown4 := row_kept (hown3.alloc (.cells #[.int .i64 0, .int .i64 61, .int .i64 (-1)] 3)) fun j hj => hg4.block j (by have := (hlo3 j hj).2; simp; omega) (fun e => by injection e with e; have := (hlo3 j hj).1; omega)
        have hsz4 : w1.heap.size ≤ w4.heap.size := by have := hg4.size; simp at this; omega
        clear cpk hd3 hg4 hown3 hlo3 hy
        go_wp2_with (at_builtin; refine wpList_append_own _ rfl _ _ 24 rfl w1.heap.size 3 i0 (Value.int .i64 0) 1 8 Try.underlying24 hi hz0 hz1 hz2 rfl (by decide) _ _ _ rfl (hown4.alloc _) ⟨_, 0, none⟩ 1 1 [.int .i64 (y)] rfl rfl (World.news_of_block (cs := #[.int .i64 (y)]) (t := 3) (fr := (0, 0)) (heap_alloc_new _ _)) (by simp [Value.oneCell']) (by unfold maxLen; omega) (by omega) (by simp; omega) ?_; intro v6 w6 hown6 hg6 _)
        have hlow := hown4.lt
        have hd6 : Dr W w6 N a len cap zs := (hd4.alloc _).grownR hg6 (fun j hj => by have := (hlow j hj).1; omega)
        have hsz6 : w1.heap.size ≤ w6.heap.size := by have := hg6.size; simp at this; omega
        have hown6' : w6.ownsRow w1.heap.size 3 1 v6 (L ++ [y]).length ((L ++ [y]).map (Value.int .i64)) := by simpa using hown6
        have hL4 : (L ++ [y]).length ≤ 4 := by rw [List.length_append, List.length_singleton]; omega
        have HTL : Hid (∀ x ∈ L ++ [y], InI64 x) := Lib.hid (fun x hx => by
          rcases List.mem_append.1 hx with h | h
          · exact HT.out x h
          · rw [List.mem_singleton.1 h]; exact hy64)
        clear hown4 hd4 hg6 hlow hown6 HT
        generalize L ++ [y] = LL at *
        go_wp2_with fail
        refine (l1Below_dr hd6 60 (by decide)).mono ?_
        rintro e w5 ⟨x5, ⟨hx50, hx5⟩, rfl, hd5, hg5⟩
        have hx5b : x5 < 60 := by omega
        have hown5 := row_kept hown6' fun j hj => hg5.block j (hown6'.lt j hj).2 (fun e => by injection e with e; have := (hown6'.lt j hj).1; omega)
        clear hx5 hown6' hd6
        go_wp2_with fail
        refine (l1Below_dr hd5 60 (by decide)).mono ?_
        rintro e w7 ⟨x7, ⟨hx70, hx7⟩, rfl, hd7, hg7⟩
        have hx7b : x7 < 60 := by omega
        have hown7 := row_kept hown5 fun j hj => hg7.block j (hown5.lt j hj).2 (fun e => by injection e with e; have := (hown5.lt j hj).1; omega)
        clear hx7 hown5 hd5 hg5
        go_wp2_with fail
        have cpk : Calls Try.prog 42 #[.pointer (some ⟨N, 0, none⟩), .slice (some ⟨w7.heap.size, 0, none⟩) 6 6] (w7.alloc (.cells #[.int .i64 x5, .int .i64 x7, .int .i64 999999, .int .i64 (-1), .int .i64 1000001, .int .i64 3601] 3)) fun e w' => ∃ x ∈ [x5, x7, 999999, -1, 1000001, 3601], e = .returned (.int .i64 x) ∧ Dr W w' N a len cap zs ∧ (w7.alloc (.cells #[.int .i64 x5, .int .i64 x7, .int .i64 999999, .int .i64 (-1), .int .i64 1000001, .int .i64 3601] 3)).grownBy w' (some N) :=
          l1PickInt_dr (hd7.alloc (.cells #[.int .i64 x5, .int .i64 x7, .int .i64 999999, .int .i64 (-1), .int .i64 1000001, .int .i64 3601] 3)) [x5, x7, 999999, -1, 1000001, 3601] w7.heap.size 6 (by simp) (by simp) (by simp) (by have := hd7.lt; omega) (fun i u h => ((Arr.new w7 3 ([x5, x7, 999999, -1, 1000001, 3601].map (Value.int .i64))).cell i).trans h)
        refine cpk.mono ?_
        rintro e w8 ⟨y8, hy8, rfl, hd8, hg8⟩
        have hlo7 := hown7.lt
        have hown8 := row_kept (hown7.alloc (.cells #[.int .i64 x5, .int .i64 x7, .int .i64 999999, .int .i64 (-1), .int .i64 1000001, .int .i64 3601] 3)) fun j hj => hg8.block j (by have := (hlo7 j hj).2; simp; omega) (fun e => by injection e with e; have := (hlo7 j hj).1; omega)
        have hy864 : InI64 y8 := by
          unfold InI64
          simp only [List.mem_cons, List.mem_nil_iff, or_false] at hy8
          omega
        have HF := Lib.hid (ownsBase hown8 hW1)
        clear cpk hown7 hown8 hg8 hd7 hlo7 hy8 hg7
        go_wp2_with fail
        go_ret2
        exact ⟨LL, _, y8, by omega, HTL.out, hy864, rfl, HF.out, hd8.bel⟩


set_option maxRecDepth 100000 in
theorem DrawFromGens_any (W : World) (a : Option Addr) (len cap : Nat) (zs : List Int) (hr : IsRow .u8 W a len cap zs) (hl : len ≤ 1048576) :
    Calls Try.prog 15 #[.slice a len cap] W (D1 5 InI64 W) := by
  have c := DrawGenerates_any W a len cap zs hr hl
  clear hr
  go_enter Try.func15, Try.ntmps15
  go_wp2_with fail
  refine c.mono ?_
  rintro e w1 ⟨L, v, n, hL, hI, hn, rfl, ho, hb⟩
  obtain ⟨a1, c1, rfl, -⟩ := row_open ho
  have HI := Lib.hid hI
  have HO := Lib.hid ho
  clear hI ho c
  go_wp2_with fail
  go_ret
  exact ⟨L, _, hL, HI.out, rfl, HO.out, hb⟩

end Go.Proofs.Ytjnkdefogmfcnaa
