/-
  CONTRACTS of the draws of chapter 2: lists of ints.
-/
import Derived.Test.YtjahmlaocgcjpaaGreatDoorDraw
import Derived.Test.YtjahmlaocgcjpaaGreatDoorDrawNum
import Derived.Test.YtjahmlaocgcjpaaGreatDoorL3
import Derived.Test.YtjahmlaocgcjpaaGreatDoorLaw
namespace Go.Proofs.YtjahmlaocgcjpaaGreatDoor
open Go Go.RowKit

/-- A draw made a list: new memory; nothing else but the cursor has turned. -/
def DrewL (m : Nat) (B : Int → Prop) (W w : World) (N : Nat) (a : Option Addr) (len cap : Nat) (zs : List Int) (e : Ending) (w' : World) : Prop :=
  ∃ (L : List Int) (v : Value), L.length ≤ m ∧ (∀ x ∈ L, B x) ∧ e = .returned v ∧ w'.ownsRow w.heap.size 3 1 v L.length (L.map (Value.int .i64)) ∧ Dr W w' N a len cap zs ∧ w.grownBy w' (some N)

def Tiny (x : Int) : Prop := -4 ≤ x ∧ x ≤ 20

theorem grown_alloc {w w' : World} {row : Option Nat} (h : w.grownBy w' row) (o : Obj) : w.grownBy (w'.alloc o) row :=
  ⟨h.os, h.tape, h.output, by have := h.size; simp; omega, fun k hk hN => (Below.heap_alloc w' o k (by have := h.size; omega)).trans (h.block k hk hN)⟩
theorem grown_more {w w' w2 : World} {N : Nat} {r : Option Nat} (h : w.grownBy w' (some N)) (h2 : w'.grownBy w2 r) (hr : ∀ k, r = some k → w.heap.size ≤ k ∨ k = N) : w.grownBy w2 (some N) :=
  ⟨h2.os.trans h.os, h2.tape.trans h.tape, h2.output.trans h.output, Nat.le_trans h.size h2.size, fun k hk hN => (h2.block k (by have := h.size; omega) (by
    intro e
    rcases hr k e.symm with h3 | h3
    · omega
    · subst h3; exact hN rfl)).trans (h.block k hk hN)⟩
theorem Dr.lt {W w : World} {N : Nat} {a : Option Addr} {len cap : Nat} {zs : List Int} (hd : Dr W w N a len cap zs) : N < w.heap.size := by
  obtain ⟨i, h, hi, hb⟩ := hd.cur
  exact (curAt_cells hb).2.2.2.2.2.2
theorem Dr.grownR {W w w' : World} {N : Nat} {a : Option Addr} {len cap : Nat} {zs : List Int} {r : Option Nat} (h : Dr W w N a len cap zs) (hg : w.grownBy w' r) (hr : ∀ k, r = some k → W.heap.size ≤ k ∧ k ≠ N) : Dr W w' N a len cap zs := by
  have hlt := h.lt
  obtain ⟨i, hh, hi, hb⟩ := h.cur
  exact ⟨h.base, h.bel.grown hg h.bel.size (fun k hk => (hr k hk).1), h.row, ⟨i, hh, hi, (hg.block N hlt (fun e => (hr N e.symm).2 rfl)).trans hb⟩⟩

set_option maxRecDepth 100000 in
set_option maxHeartbeats 1600000 in
theorem l2Draw_dr {W w : World} {N : Nat} {a : Option Addr} {len cap : Nat} {zs : List Int} (hd : Dr W w N a len cap zs) :
    Calls Tryz.prog 39 #[.pointer (some ⟨N, 0, none⟩)] w (DrewL 5 Tiny W w N a len cap zs) := by
  obtain ⟨i0, hi, hz0, hz1, hz2⟩ := info_parts infoIntL
  have hlt := hd.lt
  go_enter Tryz.func39, Tryz.ntmps39
  go_wp2_with fail
  refine (l1Below_dr (hd.alloc _) 6 (by decide)).mono ?_
  rintro e w1 ⟨x, ⟨hx0, hx⟩, rfl, hd1, hg1⟩
  obtain ⟨n, rfl⟩ := Int.eq_ofNat_of_zero_le hx0
  have hn : n ≤ 5 := by omega
  have hown0 : (w.alloc (.cells #[] 3)).ownsRow w.heap.size 3 1 (.slice (some ⟨w.heap.size, 0, none⟩) 0 0) 0 [] := World.ownsRow_lit w #[] 0 (Nat.le_refl _) (by simp) rfl
  have hown1 : w1.ownsRow w.heap.size 3 1 (.slice (some ⟨w.heap.size, 0, none⟩) 0 0) 0 [] := hown0.kept hg1 (.inr (by simp [Value.ownBlock]; omega))
  have hgw : w.grownBy w1 (some N) := grown_more (grown_alloc (grown_refl w (some N)) _) hg1 (fun k hk => by cases hk; exact .inr rfl)
  clear hx hx0 hd hg1 hown0
  go_wp2_with fail
  go_loopw [3, 5] (fun v i wr => ∃ (k : Nat) (L : List Int), k ≤ n ∧ i = .int .i64 (k : Int) ∧ L.length = k ∧ (∀ x ∈ L, Tiny x) ∧
      wr.ownsRow w.heap.size 3 1 v L.length (L.map (Value.int .i64)) ∧ Dr W wr N a len cap zs ∧ w.grownBy wr (some N)) (fun _ i _ => n - (intOf i).toNat)
  case atStart => exact ⟨0, [], Nat.zero_le _, rfl, rfl, by simp, hown1, hd1, hgw⟩
  case round =>
    clear hown1 hd1 hgw
    obtain ⟨k, L, hk, rfl, hLk, hT, hown, hd, hgw⟩ := hrel
    have HL := Lib.hid hLk
    have HT := Lib.hid hT
    have hL5 : L.length ≤ 5 := by omega
    have hsz := hgw.size
    clear hLk hT
    by_cases hkn : k < n
    · have hkn' : (k : Int) < (n : Int) := by omega
      go_wp2_with fail
      refine (l1Below_dr hd 25 (by decide)).mono ?_
      rintro e w2 ⟨x, ⟨hx0, hx⟩, rfl, hd2, hg2⟩
      have hx1 : x < 25 := by omega
      have hlow := hown.lt
      have hown2 := row_kept hown fun j hj => hg2.block j (hlow j hj).2 (fun e => by injection e with e; have := (hlow j hj).1; omega)
      have hgw2 := grown_trans hgw hg2
      have hsz2 := hgw2.size
      have hxw : IntKind.i64.wrap (x - 4) = x - 4 := IntWalk.i64_in _ (by omega)
      clear hx hown hd hg2 hgw hlow
      go_wp2_with (at_builtin; refine wpList_append_own _ rfl _ _ 27 rfl w.heap.size 3 i0 (Value.int .i64 0) 1 8 Tryz.underlying27 hi hz0 hz1 hz2 rfl (by decide) _ _ _ rfl (hown2.alloc _) ⟨_, 0, none⟩ 1 1 [.int .i64 (x - 4)] rfl rfl (World.news_of_block (cs := #[.int .i64 (x - 4)]) (t := 3) (fr := (0, 0)) (heap_alloc_new _ _)) (by simp [Value.oneCell']) (by unfold maxLen; omega) (by omega) (by simp; omega) ?_; intro v3 w3 hown3 hgr3 _)
      have hlow2 := hown2.lt
      have hd3 : Dr W w3 N a len cap zs := (hd2.alloc _).grownR hgr3 (fun j hj => by have := (hlow2 j hj).1; have := hd2.base; omega)
      have hgw3 : w.grownBy w3 (some N) := grown_more (grown_alloc hgw2 _) hgr3 (fun j hj => .inl (hlow2 j hj).1)
      have HO := Lib.hid hown3
      clear hown2 hd2 hown3 hgr3 hgw2 hlow2
      go_wp2_with fail
      go_roundw
      case rel =>
        refine ⟨k + 1, L ++ [x - 4], by omega, by go_num, by have := HL.out; simp; omega, ?_, by have := HO.out; simpa using this, hd3, hgw3⟩
        intro y hy
        rcases List.mem_append.1 hy with h | h
        · exact HT.out y h
        · rw [List.mem_singleton.1 h]; unfold Tiny; omega
      case measure => simp [intOf]; omega
    · have hkn' : ¬ (k : Int) < (n : Int) := by omega
      have HO := Lib.hid hown
      clear hown
      go_wp2_with fail
      go_ret
      exact ⟨L, _, hL5, HT.out, rfl, HO.out, hd, hgw⟩

def bentL : List Int := [1000000, 1000001, -1000001, -9223372036854775808]
theorem bentL_in : ∀ x ∈ bentL, InI64 x := by unfold InI64; decide
theorem Tiny.in64 {x : Int} (h : Tiny x) : InI64 x := by unfold Tiny at h; unfold InI64; omega

set_option maxRecDepth 100000 in
set_option maxHeartbeats 1600000 in
theorem l2Bent_dr {W w : World} {N : Nat} {a : Option Addr} {len cap : Nat} {zs : List Int} (hd : Dr W w N a len cap zs) :
    Calls Tryz.prog 38 #[.pointer (some ⟨N, 0, none⟩)] w (DrewL 6 InI64 W w N a len cap zs) := by
  obtain ⟨i0, hi, hz0, hz1, hz2⟩ := info_parts infoIntL
  have hlt := hd.lt
  have c1 := l2Draw_dr hd
  go_enter Tryz.func38, Tryz.ntmps38
  go_wp2_with fail
  refine c1.mono ?_
  rintro e w1 ⟨L, v, hL, hT, rfl, hown, hd1, hg1⟩
  have HT := Lib.hid (fun x hx => (hT x hx).in64)
  have HO := Lib.hid hown
  have hsz := hg1.size
  clear c1 hd hT hown
  go_wp2_with fail
  refine (l1Once_dr hd1 8 (by decide)).mono ?_
  rintro e w2 ⟨b, rfl, hd2, hg2⟩
  have hgw := grown_trans hg1 hg2
  have hlow := HO.out.lt
  have HO2 := Lib.hid (row_kept HO.out fun j hj => hg2.block j (hlow j hj).2 (fun e => by injection e with e; have := (hlow j hj).1; omega))
  have hsz2 := hg2.size
  clear hd1 hg1 hg2 HO hlow
  cases b
  · go_wp2_with fail
    go_ret
    exact ⟨L, v, by omega, HT.out, rfl, HO2.out, hd2, hgw⟩
  · have hlt2 := hd2.lt
    go_wp2_with fail
    refine (l1PickInt_dr (hd2.alloc _) bentL w2.heap.size 4 (by decide) (by decide) (by simp) (by omega) ?_).mono ?_
    · intro i u h
      rw [cell_new]
      exact h
    rintro e w3 ⟨x, hx, rfl, hd3, hg3⟩
    have hx64 := bentL_in x hx
    have hlow2 := HO2.out.lt
    have hown3 := row_kept (w := w2.alloc _) (w' := w3) (HO2.out.alloc _) fun j hj => hg3.block j (by have := (hlow2 j hj).2; simp; omega) (fun e => by injection e with e; have := (hlow2 j hj).1; omega)
    have hgw3 := grown_trans (grown_alloc hgw (.cells #[.int .i64 1000000, .int .i64 1000001, .int .i64 (-1000001), .int .i64 (-9223372036854775808)] 3)) hg3
    have hsz3 := hgw3.size
    clear hx hd2 hg3 HO2 hgw hlow2
    go_wp2_with (at_builtin; refine wpList_append_own _ rfl _ _ 27 rfl w.heap.size 3 i0 (Value.int .i64 0) 1 8 Tryz.underlying27 hi hz0 hz1 hz2 rfl (by decide) _ _ _ rfl (hown3.alloc _) ⟨_, 0, none⟩ 1 1 [.int .i64 x] rfl rfl (World.news_of_block (cs := #[.int .i64 x]) (t := 3) (fr := (0, 0)) (heap_alloc_new _ _)) (by simp [Value.oneCell']) (by unfold maxLen; omega) (by omega) (by simp; omega) ?_; intro v4 w4 hown4 hgr4 _)
    have hlow3 := hown3.lt
    have hd4 : Dr W w4 N a len cap zs := (hd3.alloc _).grownR hgr4 (fun j hj => by have := (hlow3 j hj).1; have := hd3.base; omega)
    have hgw4 : w.grownBy w4 (some N) := grown_more (grown_alloc hgw3 _) hgr4 (fun j hj => .inl (hlow3 j hj).1)
    have HO4 := Lib.hid hown4
    clear hown3 hd3 hown4 hgr4 hgw3 hlow3
    go_wp2_with fail
    go_ret
    refine ⟨L ++ [x], v4, by simp; omega, ?_, rfl, by have := HO4.out; simpa using this, hd4, hgw4⟩
    intro y hy
    rcases List.mem_append.1 hy with h | h
    · exact HT.out y h
    · rw [List.mem_singleton.1 h]; exact hx64

/-- What a draw of one list, of two, of a list and an int, of two ints, of a text gives. -/
def D1 (m : Nat) (B : Int → Prop) (W : World) (e : Ending) (w' : World) : Prop :=
  ∃ (L : List Int) (v : Value), L.length ≤ m ∧ (∀ x ∈ L, B x) ∧ e = .returned v ∧ w'.ownsRow W.heap.size 3 1 v L.length (L.map (Value.int .i64)) ∧ Below W.heap.size W w'
def D2 (m : Nat) (B : Int → Prop) (W : World) (e : Ending) (w' : World) : Prop :=
  ∃ (L M : List Int) (v u : Value), L.length ≤ m ∧ M.length ≤ m ∧ (∀ x ∈ L, B x) ∧ (∀ x ∈ M, B x) ∧ e = .returned (.tuple #[v, u]) ∧ w'.ownsRow W.heap.size 3 1 v L.length (L.map (Value.int .i64)) ∧ w'.ownsRow W.heap.size 3 1 u M.length (M.map (Value.int .i64)) ∧ Below W.heap.size W w'
def D1i (m : Nat) (B : Int → Prop) (W : World) (e : Ending) (w' : World) : Prop :=
  ∃ (L : List Int) (v : Value) (n : Int), L.length ≤ m ∧ (∀ x ∈ L, B x) ∧ InI64 n ∧ e = .returned (.tuple #[v, .int .i64 n]) ∧ w'.ownsRow W.heap.size 3 1 v L.length (L.map (Value.int .i64)) ∧ Below W.heap.size W w'
def Dii (W : World) (e : Ending) (w' : World) : Prop :=
  ∃ (n m : Int), InI64 n ∧ InI64 m ∧ e = .returned (.tuple #[.int .i64 n, .int .i64 m]) ∧ Below W.heap.size W w'
def Ds (k : Nat) (W : World) (e : Ending) (w' : World) : Prop :=
  ∃ s : ByteArray, s.size ≤ k ∧ e = .returned (.string s) ∧ Below W.heap.size W w'

set_option maxRecDepth 100000 in
theorem DrawSortList_any (W : World) (a : Option Addr) (len cap : Nat) (zs : List Int) (hr : IsRow .u8 W a len cap zs) (hl : len ≤ 1048576) :
    Calls Tryz.prog 7 #[.slice a len cap] W (D1 6 InI64 W) := by
  go_enter Tryz.func7, Tryz.ntmps7
  go_wp2_with fail
  refine (l1New_any W a len cap zs hr hl).mono ?_
  rintro e w1 ⟨N, rfl, hd⟩
  go_wp2_with fail
  refine (l2Bent_dr hd).mono ?_
  rintro e w2 ⟨L, v, hL, hT, rfl, hown, hd2, hg2⟩
  have HO := Lib.hid hown
  have HT := Lib.hid hT
  clear hown hT
  go_wp2_with fail
  go_ret
  exact ⟨L, v, hL, HT.out, rfl, ownsBase HO.out hd.bel.size, hd2.bel⟩

set_option maxRecDepth 100000 in
theorem DrawListText_any (W : World) (a : Option Addr) (len cap : Nat) (zs : List Int) (hr : IsRow .u8 W a len cap zs) (hl : len ≤ 1048576) :
    Calls Tryz.prog 29 #[.slice a len cap] W (D1 5 Tiny W) := by
  go_enter Tryz.func29, Tryz.ntmps29
  go_wp2_with fail
  refine (l1New_any W a len cap zs hr hl).mono ?_
  rintro e w1 ⟨N, rfl, hd⟩
  go_wp2_with fail
  refine (l2Draw_dr hd).mono ?_
  rintro e w2 ⟨L, v, hL, hT, rfl, hown, hd2, hg2⟩
  have HO := Lib.hid hown
  have HT := Lib.hid hT
  clear hown hT
  go_wp2_with fail
  go_ret
  exact ⟨L, v, hL, HT.out, rfl, ownsBase HO.out hd.bel.size, hd2.bel⟩

theorem dr_row {W w w' : World} {N : Nat} {a : Option Addr} {len cap : Nat} {zs : List Int} {base : Nat} {v : Value} {n : Nat} {xs : List Value} (hd : Dr W w N a len cap zs) (h : w.ownsRow base 3 1 v n xs) (hN : N < base) (hg : w.grownBy w' (some N)) : w'.ownsRow base 3 1 v n xs :=
  have hl := h.lt
  row_kept h fun j hj => hg.block j (hl j hj).2 (fun e => by injection e with e; have := (hl j hj).1; have := hd.lt; omega)

set_option maxRecDepth 100000 in
theorem DrawSumsOf_any (W : World) (a : Option Addr) (len cap : Nat) (zs : List Int) (hr : IsRow .u8 W a len cap zs) (hl : len ≤ 1048576) :
    Calls Tryz.prog 8 #[.slice a len cap] W (D2 6 InI64 W) := by
  go_enter Tryz.func8, Tryz.ntmps8
  go_wp2_with fail
  refine (l1New_any W a len cap zs hr hl).mono ?_
  rintro e w1 ⟨N, rfl, hd⟩
  go_wp2_with fail
  refine (l2Bent_dr hd).mono ?_
  rintro e w2 ⟨L, v, hL, hT, rfl, hown, hd2, hg2⟩
  have HO := Lib.hid hown
  have HT := Lib.hid hT
  clear hown hT
  go_wp2_with fail
  refine (l2Bent_dr hd2).mono ?_
  rintro e w3 ⟨M, u, hM, hT2, rfl, hown2, hd3, hg3⟩
  have HO2 := Lib.hid hown2
  have HT2 := Lib.hid hT2
  have HOL := Lib.hid (dr_row hd2 HO.out hd.lt hg3)
  clear hown2 hT2 HO
  go_wp2_with fail
  go_ret2
  exact ⟨L, M, v, u, hL, hM, HT.out, HT2.out, rfl, ownsBase HOL.out hd.bel.size, ownsBase HO2.out hd2.bel.size, hd3.bel⟩

set_option maxRecDepth 100000 in
theorem DrawSharedOf_any (W : World) (a : Option Addr) (len cap : Nat) (zs : List Int) (hr : IsRow .u8 W a len cap zs) (hl : len ≤ 1048576) :
    Calls Tryz.prog 9 #[.slice a len cap] W (D2 6 InI64 W) := by
  go_enter Tryz.func9, Tryz.ntmps9
  go_wp2_with fail
  refine (l1New_any W a len cap zs hr hl).mono ?_
  rintro e w1 ⟨N, rfl, hd⟩
  go_wp2_with fail
  refine (l2Draw_dr hd).mono ?_
  rintro e w2 ⟨L, v, hL, hT, rfl, hown, hd2, hg2⟩
  have HO := Lib.hid hown
  have HT := Lib.hid hT
  clear hown hT
  go_wp2_with fail
  refine (l2Draw_dr hd2).mono ?_
  rintro e w3 ⟨M, u, hM, hT2, rfl, hown2, hd3, hg3⟩
  have HO2 := Lib.hid hown2
  have HT2 := Lib.hid hT2
  have HOL := Lib.hid (dr_row hd2 HO.out hd.lt hg3)
  clear hown2 hT2 HO
  go_wp2_with fail
  go_ret2
  exact ⟨L, M, v, u, by omega, by omega, fun x hx => (HT.out x hx).in64, fun x hx => (HT2.out x hx).in64, rfl, ownsBase HOL.out hd.bel.size, ownsBase HO2.out hd2.bel.size, hd3.bel⟩

set_option maxRecDepth 100000 in
theorem DrawHasNumber_any (W : World) (a : Option Addr) (len cap : Nat) (zs : List Int) (hr : IsRow .u8 W a len cap zs) (hl : len ≤ 1048576) :
    Calls Tryz.prog 10 #[.slice a len cap] W (D1i 6 InI64 W) := by
  go_enter Tryz.func10, Tryz.ntmps10
  go_wp2_with fail
  refine (l1New_any W a len cap zs hr hl).mono ?_
  rintro e w1 ⟨N, rfl, hd⟩
  go_wp2_with fail
  refine (l2Draw_dr hd).mono ?_
  rintro e w2 ⟨L, v, hL, hT, rfl, hown, hd2, hg2⟩
  have HO := Lib.hid hown
  have HT := Lib.hid hT
  clear hown hT
  go_wp2_with fail
  refine (l1Below_dr hd2 25 (by decide)).mono ?_
  rintro e w3 ⟨x, ⟨hx0, hx⟩, rfl, hd3, hg3⟩
  have hx1 : x < 25 := by omega
  have HOL := Lib.hid (dr_row hd2 HO.out hd.lt hg3)
  clear hx HO
  go_wp2_with fail
  go_ret2
  exact ⟨L, v, _, by omega, fun x hx => (HT.out x hx).in64, ⟨by omega, by omega⟩, rfl, ownsBase HOL.out hd.bel.size, hd3.bel⟩

set_option maxRecDepth 100000 in
theorem DrawIsAscending_any (W : World) (a : Option Addr) (len cap : Nat) (zs : List Int) (hr : IsRow .u8 W a len cap zs) (hl : len ≤ 1048576) :
    Calls Tryz.prog 11 #[.slice a len cap] W (D1 5 (fun _ => True) W) := by
  go_enter Tryz.func11, Tryz.ntmps11
  go_wp2_with fail
  refine (l1New_any W a len cap zs hr hl).mono ?_
  rintro e w1 ⟨N, rfl, hd⟩
  go_wp2_with fail
  refine (l2Draw_dr hd).mono ?_
  rintro e w2 ⟨L, v, hL, hT, rfl, hown, hd2, hg2⟩
  have HO := Lib.hid hown
  clear hown hT
  go_wp2_with fail
  refine (l1Once_dr hd2 2 (by decide)).mono ?_
  rintro e w3 ⟨b, rfl, hd3, hg3⟩
  have HOL := Lib.hid (dr_row hd2 HO.out hd.lt hg3)
  clear HO
  cases b
  · go_wp2_with fail
    go_ret
    exact ⟨L, v, hL, fun _ _ => trivial, rfl, ownsBase HOL.out hd.bel.size, hd3.bel⟩
  · obtain ⟨a2, c2, rfl, -, -, hs2, -⟩ := SlV.of_owns HOL.out
    have cs := spec_SortList L a2 c2 w3 hs2 (by omega)
    have hlen := sortL_length_le L
    clear hs2 HOL
    go_wp2_with fail
    refine cs.mono ?_
    rintro e w4 ⟨g4, c4, rfl, ho4, hb4⟩
    have HO4 := Lib.hid ho4
    clear ho4
    go_wp2_with fail
    go_ret
    exact ⟨sortL L, _, by omega, fun _ _ => trivial, rfl, ownsBase HO4.out hd3.bel.size, hd3.bel.trans (hb4.mono hd3.bel.size)⟩

set_option maxRecDepth 100000 in
theorem DrawGcdOf_any (W : World) (a : Option Addr) (len cap : Nat) (zs : List Int) (hr : IsRow .u8 W a len cap zs) (hl : len ≤ 1048576) :
    Calls Tryz.prog 5 #[.slice a len cap] W (Dii W) := by
  go_enter Tryz.func5, Tryz.ntmps5
  go_wp2_with fail
  refine (l1New_any W a len cap zs hr hl).mono ?_
  rintro e w1 ⟨N, rfl, hd⟩
  go_wp2_with fail
  refine (l1Below_dr hd 200 (by decide)).mono ?_
  rintro e w2 ⟨x, ⟨hx0, hx⟩, rfl, hd2, hg2⟩
  have hx1 : x < 200 := by omega
  clear hx hd hg2
  go_wp2_with fail
  refine (l1Below_dr hd2 200 (by decide)).mono ?_
  rintro e w3 ⟨y, ⟨hy0, hy⟩, rfl, hd3, hg3⟩
  have hy1 : y < 200 := by omega
  clear hy hd2 hg3
  go_wp2_with fail
  refine (l1Once_dr hd3 10 (by decide)).mono ?_
  rintro e w4 ⟨b, rfl, hd4, hg4⟩
  clear hd3 hg4
  cases b
  · go_wp2_with fail
    go_ret2
    exact ⟨_, _, ⟨by omega, by omega⟩, ⟨by omega, by omega⟩, rfl, hd4.bel⟩
  · have hlt2 := hd4.lt
    go_wp2_with fail
    refine (l1PickInt_dr (hd4.alloc _) bentL w4.heap.size 4 (by decide) (by decide) (by simp) (by omega) ?_).mono ?_
    · intro i u h
      rw [cell_new]
      exact h
    rintro e w5 ⟨z, hz, rfl, hd5, hg5⟩
    have hz64 := bentL_in z hz
    clear hz hd4 hg5
    go_wp2_with fail
    go_ret2
    exact ⟨_, _, ⟨by omega, by omega⟩, hz64, rfl, hd5.bel⟩
end Go.Proofs.YtjahmlaocgcjpaaGreatDoor
