/-
  THE DRAWS: contracts of the reference's draws of chapters 1 and 2.
-/
import Derived.Test.YtljfiiohiolbnaaKitA
import Derived.Test.YtljfiiohiolbnaaCh2
import Derived.WalkKit
import Derived.WalkLawsBesides
import Derived.BigQuiet
import Derived.Deep.QuietTactic
import Derived.Outline
import Derived.Deep.RegionWith

/-
  CONTRACTS of the draws' cursor: l1New, l1Byte, l1Below, l1Once, l1Pick, l1PickInt: each returns, within its bounds, and writes into the cursor alone.
-/
namespace Go.Proofs.Ytljfiiohiolbnaa
open Go Go.RowKit

/-- THE CURSOR in block N: the code's slice, how far it was read, the running number. -/
def CurAt (w : World) (N : Nat) (a : Option Addr) (len cap : Nat) : Prop :=
  ∃ (i : Nat) (h : Int), i ≤ len ∧ w.heap[N]? = some (.cells #[.slice a len cap, .int .i64 (i : Int), .int .i64 h] 70 (0, 0))

theorem curAt_cells {w : World} {N : Nat} {t : TypeId} {x y z : Value} (h : w.heap[N]? = some (.cells #[x, y, z] t (0, 0))) :
    w.cell? ⟨N, 0, none⟩ = some x ∧ w.cell? ⟨N, 1, none⟩ = some y ∧ w.cell? ⟨N, 2, none⟩ = some z ∧
    w.frozen? ⟨N, 0, none⟩ = false ∧ w.frozen? ⟨N, 1, none⟩ = false ∧ w.frozen? ⟨N, 2, none⟩ = false ∧ N < w.heap.size := by
  refine ⟨?_, ?_, ?_, frozen_of_row w N 0 _ t h, frozen_of_row w N 1 _ t h, frozen_of_row w N 2 _ t h, ?_⟩
  · rw [cell_of_row w N 0 _ t (0, 0) h]; rfl
  · rw [cell_of_row w N 1 _ t (0, 0) h]; rfl
  · rw [cell_of_row w N 2 _ t (0, 0) h]; rfl
  · rcases Nat.lt_or_ge N w.heap.size with h1 | h1
    · exact h1
    · rw [Array.getElem?_eq_none h1] at h; cases h

theorem i64_and255 (n : Int) : bits .and .i64 n 255 = n % 256 := by
  have h255 : (BitVec.ofInt 64 255).toNat = 2 ^ 8 - 1 := by decide
  have key : (BitVec.ofInt 64 n &&& BitVec.ofInt 64 255).toNat = (n % ((2 ^ 64 : Nat) : Int)).toNat % 2 ^ 8 := by
    rw [BitVec.toNat_and, BitVec.toNat_ofInt, h255, Nat.and_two_pow_sub_one_eq_mod]
  show IntKind.i64.wrap ((BitVec.ofInt 64 n &&& BitVec.ofInt 64 255).toNat : Nat) = n % 256
  rw [key, IntKind.wrap_i64]
  omega
theorem i64_and30 (n : Int) : bits .and .i64 n 1073741823 = n % 1073741824 := by
  have h30 : (BitVec.ofInt 64 1073741823).toNat = 2 ^ 30 - 1 := by decide
  have key : (BitVec.ofInt 64 n &&& BitVec.ofInt 64 1073741823).toNat = (n % ((2 ^ 64 : Nat) : Int)).toNat % 2 ^ 30 := by
    rw [BitVec.toNat_and, BitVec.toNat_ofInt, h30, Nat.and_two_pow_sub_one_eq_mod]
  show IntKind.i64.wrap ((BitVec.ofInt 64 n &&& BitVec.ofInt 64 1073741823).toNat : Nat) = n % 1073741824
  rw [key, IntKind.wrap_i64]
  omega

theorem three_set {w : World} {N : Nat} {t : TypeId} {x y z : Value} (h : w.heap[N]? = some (.cells #[x, y, z] t (0, 0))) (v : Value) :
    (w.setCell ⟨N, 2, none⟩ v).heap[N]? = some (.cells #[x, y, v] t (0, 0)) ∧ (w.setCell ⟨N, 1, none⟩ v).heap[N]? = some (.cells #[x, v, z] t (0, 0)) := by
  refine ⟨?_, ?_⟩
  · rw [heap_setCell_same w N 2 _ t v h]; rfl
  · rw [heap_setCell_same w N 1 _ t v h]; rfl
theorem grown_set (w : World) (N o : Nat) (v : Value) : w.grownBy (w.setCell ⟨N, o, none⟩ v) (some N) :=
  ⟨rfl, rfl, rfl, by simp, fun k _ hk => heap_setCell_other w ⟨N, o, none⟩ k v (fun e => hk (by simp [e]))⟩

theorem grown_drewN {w w' : World} {row : Option Nat} (h : w.grownBy w' row) (n : Nat) : w.grownBy (w'.drewN n) row := ⟨h.os, h.tape, h.output, h.size, h.block⟩
theorem grown_trans {a b c : World} {N : Nat} (h : a.grownBy b (some N)) (k : b.grownBy c (some N)) : a.grownBy c (some N) :=
  ⟨k.os.trans h.os, k.tape.trans h.tape, k.output.trans h.output, Nat.le_trans h.size k.size, fun j hj hN => (k.block j (Nat.lt_of_lt_of_le hj h.size) hN).trans (h.block j hj hN)⟩
theorem ret_int {k : IntKind} {a b : Int} (h : a = b) : Ending.returned (.int k a) = .returned (.int k b) := by rw [h]

set_option maxRecDepth 100000 in
set_option maxHeartbeats 400000 in
theorem l1Byte_any (w : World) (N : Nat) (a : Option Addr) (len cap : Nat) (zs : List Int) (hr : IsRow .u8 w a len cap zs) (hN : 0 < len → ∀ b off, a = some ⟨b, off, none⟩ → b ≠ N) (hc : CurAt w N a len cap) :
    Calls Try.prog 79 #[.pointer (some ⟨N, 0, none⟩)] w fun e w' => ∃ x : Nat, x ≤ 255 ∧ e = .returned (.int .i64 (x : Int)) ∧ CurAt w' N a len cap ∧ w.grownBy w' (some N) := by
  obtain ⟨i, h, hi, hb⟩ := hc
  obtain ⟨c0, c1, c2, f0, f1, f2, hlt⟩ := curAt_cells hb
  go_enter Try.func79, Try.ntmps79
  go_wp2_with fail
  obtain ⟨hb1, -⟩ := three_set hb (.int .i64 (wrap64 (wrap64 (h * 6364136223846793005) + 1442695040888963407)))
  have hg1 := grown_set w N 2 (.int .i64 (wrap64 (wrap64 (h * 6364136223846793005) + 1442695040888963407)))
  generalize wrap64 (wrap64 (h * 6364136223846793005) + 1442695040888963407) = h1 at *
  have HB := Lib.hid hb1
  have HG := Lib.hid hg1
  obtain ⟨d0, d1, d2, g0, g1, g2, dlt⟩ := curAt_cells hb1
  clear c0 c1 c2 f0 f1 f2 hb hb1 hg1
  have ha := i64_and255
  generalize hw1 : w.setCell ⟨N, 2, none⟩ (.int .i64 h1) = w1 at *
  have HW := Lib.hid hw1
  clear hw1
  go_quiet (fail)
  go_wp2_with fail
  have hx0 : 0 ≤ bits BinOp.xor IntKind.i64 (h1 / 8589934592) (h1 / 35184372088832) % 256 := Int.emod_nonneg _ (by decide)
  have hx1 : bits BinOp.xor IntKind.i64 (h1 / 8589934592) (h1 / 35184372088832) % 256 < 256 := Int.emod_lt_of_pos _ (by decide)
  generalize bits BinOp.xor IntKind.i64 (h1 / 8589934592) (h1 / 35184372088832) % 256 = x at *
  by_cases hlti : i < len
  · rcases hr with ⟨rfl, -, -⟩ | ⟨b, off, rfl, hbs, hl, hm, hz, hcz, hwf⟩
    · omega
    have hbN : b ≠ N := hN (by omega) b off rfl
    have hcw : w1.cell? ⟨b, off + i, none⟩ = some (.int .u8 (zs.getD i 0)) := by
      rw [← HW.out, World.cell?_setCell_other _ _ _ _ (by intro e; exact hbN (congrArg Addr.block e).symm)]
      exact hcz i (by omega)
    have hby := hwf (zs.getD i 0) (by rw [List.getD, List.getElem?_eq_getElem (by omega)]; exact List.getElem_mem _)
    have hby2 : 0 ≤ zs.getD i 0 ∧ zs.getD i 0 ≤ 255 := by
      have e1 : IntKind.u8.min = 0 := rfl
      have e2 : IntKind.u8.max = 255 := rfl
      simpa [Lit.wf, e1, e2] using hby
    obtain ⟨y0, y1⟩ := hby2
    generalize zs.getD i 0 = y at *
    unfold maxLen at hm
    have hi0 : (0 : Int) ≤ (i : Int) := by omega
    have hi1 : (i : Int) < (len : Int) := by omega
    have hs1 : 0 ≤ x + y := by omega
    have hs2 : IntKind.i64.wrap (x + y) = x + y := IntWalk.i64_in _ (by omega)
    clear hcz hwf hby hz
    go_quiet (fail)
    go_wp2_with fail
    go_quiet (fail)
    go_wp2_with fail
    go_ret
    refine ⟨((x + y) % 256).toNat, by omega, ret_int (by omega), ⟨i + 1, h1, by omega, ?_⟩, ?_⟩
    · exact (three_set (w := w1.drewN _) HB.out _).2
    · exact grown_trans (grown_drewN HG.out _) (grown_set _ N 1 _)
  · clear hr
    go_quiet (fail)
    go_wp2_with fail
    go_ret
    exact ⟨x.toNat, by omega, ret_int (by omega), ⟨i, h1, hi, HB.out⟩, grown_drewN (grown_drewN HG.out _) _⟩

/-- A DRAW UNDER WAY: behind the call that began in world W the cursor lies in block N, and nothing that was there has turned. -/
structure Dr (W w : World) (N : Nat) (a : Option Addr) (len cap : Nat) (zs : List Int) : Prop where
  base : W.heap.size ≤ N
  bel : Below W.heap.size W w
  row : IsRow .u8 W a len cap zs
  cur : CurAt w N a len cap

theorem IsRow.below {k : IntKind} {W w : World} {a : Option Addr} {len cap : Nat} {zs : List Int} (h : IsRow k W a len cap zs) (hb : Below W.heap.size W w) : IsRow k w a len cap zs := by
  rcases h with h | ⟨b, off, ha, hlt, hl, hm, hz, hc, hw⟩
  · exact .inl h
  · exact .inr ⟨b, off, ha, Nat.lt_of_lt_of_le hlt hb.size, hl, hm, hz, fun i hi => by rw [hb.cell (p := ⟨b, off + i, none⟩) hlt]; exact hc i hi, hw⟩

theorem Dr.grown {W w w' : World} {N M : Nat} {a : Option Addr} {len cap : Nat} {zs : List Int} (h : Dr W w N a len cap zs) (hg : w.grownBy w' (some M)) (hM : W.heap.size ≤ M) (hc : CurAt w' N a len cap) : Dr W w' N a len cap zs :=
  ⟨h.base, h.bel.grown hg h.bel.size (fun k hk => by cases hk; exact hM), h.row, hc⟩

/-- A further block, or a draw of the order: the cursor stays. -/
theorem Dr.alloc {W w : World} {N : Nat} {a : Option Addr} {len cap : Nat} {zs : List Int} (h : Dr W w N a len cap zs) (o : Obj) : Dr W (w.alloc o) N a len cap zs := by
  obtain ⟨i, hh, hi, hb⟩ := h.cur
  refine ⟨h.base, h.bel.alloc h.bel.size o, h.row, ⟨i, hh, hi, ?_⟩⟩
  have hlt : N < w.heap.size := (curAt_cells hb).2.2.2.2.2.2
  rw [Below.heap_alloc w o N hlt]; exact hb
theorem Dr.drewN {W w : World} {N : Nat} {a : Option Addr} {len cap : Nat} {zs : List Int} (h : Dr W w N a len cap zs) (n : Nat) : Dr W (w.drewN n) N a len cap zs :=
  ⟨h.base, below_drewN h.bel n, h.row, h.cur⟩

theorem l1Byte_dr {W w : World} {N : Nat} {a : Option Addr} {len cap : Nat} {zs : List Int} (hd : Dr W w N a len cap zs) :
    Calls Try.prog 79 #[.pointer (some ⟨N, 0, none⟩)] w fun e w' => ∃ x : Nat, x ≤ 255 ∧ e = .returned (.int .i64 (x : Int)) ∧ Dr W w' N a len cap zs ∧ w.grownBy w' (some N) := by
  refine (l1Byte_any w N a len cap zs (hd.row.below hd.bel) ?_ hd.cur).mono ?_
  · intro h0 b off ha e
    subst e
    rcases hd.row with ⟨hl, hc, -⟩ | ⟨b', off', ha', hlt, -⟩
    · omega
    · rw [ha] at ha'; cases ha'; have := hd.base; omega
  · rintro e w' ⟨x, hx, he, hc, hg⟩
    exact ⟨x, hx, he, hd.grown hg hd.base hc, hg⟩

/-- What l1Below gives: 0 where n is not positive, a number below n else. -/
def BelowPost (W w : World) (N : Nat) (a : Option Addr) (len cap : Nat) (zs : List Int) (n : Int) (e : Ending) (w' : World) : Prop :=
  ∃ x : Int, (0 ≤ x ∧ (x < n ∨ (n ≤ 0 ∧ x = 0))) ∧ e = .returned (.int .i64 x) ∧ Dr W w' N a len cap zs ∧ w.grownBy w' (some N)

theorem grown_refl (w : World) (N : Option Nat) : w.grownBy w N := ⟨rfl, rfl, rfl, Nat.le_refl _, fun _ _ _ => rfl⟩

set_option maxRecDepth 100000 in
set_option maxHeartbeats 400000 in
theorem l1Below_dr {W w : World} {N : Nat} {a : Option Addr} {len cap : Nat} {zs : List Int} (hd : Dr W w N a len cap zs) (n : Int) (hn : n ≤ 9223372036854775807) :
    Calls Try.prog 52 #[.pointer (some ⟨N, 0, none⟩), .int .i64 n] w (BelowPost W w N a len cap zs n) := by
  by_cases h0 : n ≤ 0
  · go_enter Try.func52, Try.ntmps52
    go_wp2_with fail
    go_ret
    exact ⟨0, ⟨Int.le_refl _, .inr ⟨h0, rfl⟩⟩, rfl, hd, grown_refl _ _⟩
  · by_cases h1 : n ≤ 256
    · go_enter Try.func52, Try.ntmps52
      go_wp2_with fail
      refine (l1Byte_dr hd).mono ?_
      rintro e w1 ⟨x, hx, rfl, hd1, hg1⟩
      go_wp2_with fail
      go_ret
      exact ⟨(x : Int) % n, ⟨Int.emod_nonneg _ (by omega), .inl (Int.emod_lt_of_pos _ (by omega))⟩, rfl, hd1, hg1⟩
    · go_enter Try.func52, Try.ntmps52
      go_wp2_with fail
      refine (l1Byte_dr hd).mono ?_
      rintro e w1 ⟨x1, hx1, rfl, hd1, hg1⟩
      go_wp2_with fail
      refine (l1Byte_dr hd1).mono ?_
      rintro e w2 ⟨x2, hx2, rfl, hd2, hg2⟩
      go_wp2_with fail
      refine (l1Byte_dr hd2).mono ?_
      rintro e w3 ⟨x3, hx3, rfl, hd3, hg3⟩
      go_wp2_with fail
      refine (l1Byte_dr hd3).mono ?_
      rintro e w4 ⟨x4, hx4, rfl, hd4, hg4⟩
      have hg := grown_trans (grown_trans (grown_trans hg1 hg2) hg3) hg4
      have hnn : 0 ≤ (x1 : Int) * 16777216 + (x2 : Int) * 65536 + (x3 : Int) * 256 + (x4 : Int) := by omega
      clear hd hd1 hd2 hd3 hg1 hg2 hg3 hg4
      go_wp2_with fail
      go_ret
      exact ⟨_, ⟨Int.emod_nonneg _ (by omega), .inl (Int.emod_lt_of_pos _ (by omega))⟩, rfl, hd4, hg⟩

set_option maxRecDepth 100000 in
theorem l1Once_dr {W w : World} {N : Nat} {a : Option Addr} {len cap : Nat} {zs : List Int} (hd : Dr W w N a len cap zs) (n : Int) (hn : n ≤ 9223372036854775807) :
    Calls Try.prog 61 #[.pointer (some ⟨N, 0, none⟩), .int .i64 n] w fun e w' => ∃ b : Bool, e = .returned (.bool b) ∧ Dr W w' N a len cap zs ∧ w.grownBy w' (some N) := by
  go_enter Try.func61, Try.ntmps61
  go_wp2_with fail
  refine (l1Below_dr hd n hn).mono ?_
  rintro e w1 ⟨x, hx, rfl, hd1, hg1⟩
  clear hx
  go_wp2_with fail
  go_ret
  exact ⟨_, rfl, hd1, hg1⟩

theorem grown_cell {w w' : World} {N b o : Nat} (h : w.grownBy w' (some N)) (hb : b < w.heap.size) (hN : b ≠ N) : w'.cell? ⟨b, o, none⟩ = w.cell? ⟨b, o, none⟩ :=
  World.cell?_of_block (w := w) (a := ⟨b, o, none⟩) (h.block b hb (by intro e; cases e; exact hN rfl))

set_option maxRecDepth 100000 in

set_option maxRecDepth 100000 in
theorem l1PickInt_dr {W w : World} {N : Nat} {a : Option Addr} {len cap : Nat} {zs : List Int} (hd : Dr W w N a len cap zs) (L : List Int) (b cp : Nat) (hL : 0 < L.length) (hL2 : L.length ≤ 1048576) (hbs : b < w.heap.size) (hbN : b ≠ N) (hc : ∀ (i : Nat) (u : Value), (L.map (Value.int .i64))[i]? = some u → w.cell? ⟨b, i, none⟩ = some u) :
    Calls Try.prog 41 #[.pointer (some ⟨N, 0, none⟩), .slice (some ⟨b, 0, none⟩) L.length cp] w fun e w' => ∃ x ∈ L, e = .returned (.int .i64 x) ∧ Dr W w' N a len cap zs ∧ w.grownBy w' (some N) := by
  go_enter Try.func41, Try.ntmps41
  go_wp2_with fail
  refine (l1Below_dr hd _ (by omega)).mono ?_
  rintro e w1 ⟨x, ⟨hx0, hx⟩, rfl, hd1, hg1⟩
  obtain ⟨k, rfl⟩ := Int.eq_ofNat_of_zero_le hx0
  have hk : k < L.length := by omega
  have hcell : w1.cell? ⟨b, k, none⟩ = some (.int .i64 L[k]) := by rw [grown_cell hg1 hbs hbN]; exact hc k _ (by simp [hk])
  clear hx hx0 hc
  go_wp2_with fail
  go_ret
  exact ⟨L[k], List.getElem_mem hk, rfl, hd1, hg1⟩

set_option maxRecDepth 100000 in
set_option maxHeartbeats 400000 in
theorem l1New_any (W : World) (a : Option Addr) (len cap : Nat) (zs : List Int) (hr : IsRow .u8 W a len cap zs) (hl : len ≤ 1048576) :
    Calls Try.prog 39 #[.slice a len cap] W fun e w' => ∃ N, e = .returned (.pointer (some ⟨N, 0, none⟩)) ∧ Dr W w' N a len cap zs := by
  have ha := i64_and30
  go_enter Try.func39, Try.ntmps39
  go_wp2_with fail
  go_loop [3, 4] (fun h i => ∃ (k : Nat) (n : Int), k ≤ len ∧ i = .int .i64 (k : Int) ∧ h = .int .i64 n ∧ 0 ≤ n ∧ n ≤ 1073741823) (fun _ i => len - (intOf i).toNat)
  case atStart => exact ⟨0, 26583 + (len : Int), Nat.zero_le _, rfl, rfl, by omega, by omega⟩
  case round =>
    obtain ⟨k, n, hk, rfl, rfl, hn0, hn1⟩ := hrel
    by_cases hlt : k < len
    · by_cases h4 : k < 4000
      · rcases hr with ⟨rfl, -, -⟩ | ⟨b, off, rfl, hbs, hll, hm, hz, hcz, hwf⟩
        · omega
        have hcell : W.cell? ⟨b, off + k, none⟩ = some (.int .u8 (zs.getD k 0)) := hcz k (by omega)
        have hby := hwf (zs.getD k 0) (by rw [List.getD, List.getElem?_eq_getElem (by omega)]; exact List.getElem_mem _)
        have hby2 : 0 ≤ zs.getD k 0 ∧ zs.getD k 0 ≤ 255 := by
          have e1 : IntKind.u8.min = 0 := rfl
          have e2 : IntKind.u8.max = 255 := rfl
          simpa [Lit.wf, e1, e2] using hby
        obtain ⟨y0, y1⟩ := hby2
        generalize zs.getD k 0 = y at *
        clear hcz hwf hby hz
        go_wp2_with fail
        go_round
        case rel => exact ⟨k + 1, _, by omega, by go_num, rfl, Int.emod_nonneg _ (by decide), by have := Int.emod_lt_of_pos (n * 131 + y + 7) (show (0 : Int) < 1073741824 by decide); omega⟩
        case measure => simp [intOf]; omega
      · go_wp2_with fail
        go_ret
        refine ⟨_, rfl, ⟨Nat.le_refl _, (Below.refl _ _).alloc (Nat.le_refl _) _, hr, ⟨0, n, Nat.zero_le _, ?_⟩⟩⟩
        exact heap_alloc_new _ _
    · go_wp2_with fail
      go_ret
      refine ⟨_, rfl, ⟨Nat.le_refl _, (Below.refl _ _).alloc (Nat.le_refl _) _, hr, ⟨0, n, Nat.zero_le _, ?_⟩⟩⟩
      exact heap_alloc_new _ _
end Go.Proofs.Ytljfiiohiolbnaa

/-
  CONTRACTS of the draws of chapter 1: l1Whole, DrawFormatInt, DrawParseNumber.
-/
namespace Go.Proofs.Ytljfiiohiolbnaa
open Go Go.RowKit

def wholeL : List Int := [0, 1, -1, 9, 10, 999999, 1000000, 999999999999, 1000000000000, -999999999999, 9223372036854775807, -9223372036854775808]
def InI64 (x : Int) : Prop := -9223372036854775808 ≤ x ∧ x ≤ 9223372036854775807
theorem wholeL_in : ∀ x ∈ wholeL, InI64 x := by unfold InI64; decide

/-- What a draw gives: its result, and the cursor still there. -/
def Drawn (P : Value → Prop) (W w : World) (N : Nat) (a : Option Addr) (len cap : Nat) (zs : List Int) (e : Ending) (w' : World) : Prop :=
  ∃ v, P v ∧ e = .returned v ∧ Dr W w' N a len cap zs ∧ (∀ k, k < w.heap.size → k ≠ N → w'.heap[k]? = w.heap[k]?)
theorem drawn_of {W w w' : World} {N : Nat} {a : Option Addr} {len cap : Nat} {zs : List Int} {P : Value → Prop} {v : Value} (hp : P v) (hd : Dr W w' N a len cap zs) (hg : w.grownBy w' (some N)) : Drawn P W w N a len cap zs (.returned v) w' :=
  ⟨v, hp, rfl, hd, fun k hk hN => hg.block k hk (by intro e; cases e; exact hN rfl)⟩
def IsI64 (v : Value) : Prop := ∃ x, InI64 x ∧ v = .int .i64 x
def IsText (m : Nat) (v : Value) : Prop := ∃ s : ByteArray, s.size ≤ m ∧ v = .string s

theorem cell_new (w : World) (l : List Value) (t : TypeId) (j : Nat) : (w.alloc (.cells l.toArray t)).cell? ⟨w.heap.size, j, none⟩ = l[j]? := by
  rw [World.cell?_alloc_mark]; simp



def numTx : List ByteArray := [⟨#[]⟩, ⟨#[48, 48]⟩, ⟨#[48, 49]⟩, ⟨#[45, 49]⟩, ⟨#[43, 49]⟩, ⟨#[120]⟩, ⟨#[57, 57, 57, 57, 57, 57]⟩, ⟨#[49, 48, 48, 48, 48, 48, 48]⟩, ⟨#[45, 48]⟩, ⟨#[45]⟩, ⟨#[32, 49]⟩, ⟨#[49, 32]⟩]
theorem numTx_size : ∀ s ∈ numTx, s.size ≤ 20 := by decide

theorem decDigits_len : ∀ (k m : Nat), m < 10 ^ (k + 1) → (Lib.decDigits m).length ≤ k + 1 := by
  intro k
  induction k with
  | zero => intro m h; rw [Lib.decDigits, dif_pos (by simpa using h)]; simp
  | succ k ih =>
    intro m h
    rw [Lib.decDigits]; by_cases h10 : m < 10
    · rw [dif_pos h10]; simp
    · rw [dif_neg h10, List.length_append]
      have := ih (m / 10) (by rw [Nat.pow_succ] at h; omega)
      simp; omega
theorem itoa_size {x : Int} (h : InI64 x) : (⟨(Lib.itoa x).toArray⟩ : ByteArray).size ≤ 20 := by
  obtain ⟨h0, h1⟩ := h
  have e : (⟨(Lib.itoa x).toArray⟩ : ByteArray).size = (Lib.itoa x).length := by simp [ByteArray.size]
  rw [e]
  have hl := decDigits_len 18 x.natAbs (by omega)
  unfold Lib.itoa
  split
  · simp; omega
  · have : x.toNat = x.natAbs := by omega
    rw [this]; omega

end Go.Proofs.Ytljfiiohiolbnaa

/-
  CONTRACT of the draw DrawSplitByte: a short text and a byte.
-/
namespace Go.Proofs.Ytljfiiohiolbnaa
open Go Go.RowKit

theorem cell_new2 (w : World) (l : List Value) (t : TypeId) (j : Nat) : (w.alloc (.cells l.toArray t)).cell? ⟨w.heap.size, j, none⟩ = l[j]? := by
  rw [World.cell?_alloc_mark]; simp

def splitTexts : List ByteArray := [⟨#[]⟩, ⟨#[97]⟩, ⟨#[97, 44, 98]⟩, ⟨#[44]⟩, ⟨#[97, 44, 44, 98, 44]⟩, ⟨#[97, 10, 98, 10]⟩]
theorem splitTexts_size : ∀ s ∈ splitTexts, s.size ≤ 20 := by decide
def splitBys : List Int := [44, 10]
theorem splitBys_in : ∀ x ∈ splitBys, 0 ≤ x ∧ x ≤ 255 := by decide

def SplitDrawn (W : World) (e : Ending) (w' : World) : Prop :=
  ∃ (s : ByteArray) (c : UInt8), s.size ≤ 20 ∧ e = .returned (.tuple #[.string s, .int .u8 (c.toNat : Int)]) ∧ Below W.heap.size W w'

end Go.Proofs.Ytljfiiohiolbnaa

/-
  CONTRACTS of the draws of chapter 2: lists of ints.
-/
namespace Go.Proofs.Ytljfiiohiolbnaa
open Go Go.RowKit

/-- A draw made a list: new memory; nothing else but the cursor has turned. -/
def DrewL (m : Nat) (B : Int → Prop) (W w : World) (N : Nat) (a : Option Addr) (len cap : Nat) (zs : List Int) (e : Ending) (w' : World) : Prop :=
  ∃ (L : List Int) (v : Value), L.length ≤ m ∧ (∀ x ∈ L, B x) ∧ e = .returned v ∧ w'.ownsRow w.heap.size 3 1 v L.length (L.map (Value.int .i64)) ∧ Dr W w' N a len cap zs ∧ w.grownBy w' (some N)

def Tiny (x : Int) : Prop := -4 ≤ x ∧ x ≤ 20

theorem grown_alloc {w w' : World} {row : Option Nat} (h : w.grownBy w' row) (o : Obj) : w.grownBy (w'.alloc o) row :=
  ⟨h.os, h.tape, h.output, by have := h.size; simp; omega, fun k hk hN => (Below.heap_alloc w' o k (by have := h.size; omega)).trans (h.block k hk hN)⟩
theorem grown_more {w w' w2 : World} {N : Nat} {r : Option Nat} (h : w.grownBy w' (some N)) (h2 : w'.grownBy w2 r) (hr : ∀ k, r = some k → w.heap.size ≤ k ∨ k = N) : w.grownBy w2 (some N) :=
  ⟨h2.os.trans h.os, h2.tape.trans h.tape, h2.output.trans h.output, Nat.le_trans h.size h2.size, fun k hk hN => (h2.block k (by have := h.size; omega) (by
    intro e
    rcases hr k e.symm with h3 | h3
    · omega
    · subst h3; exact hN rfl)).trans (h.block k hk hN)⟩
theorem Dr.lt {W w : World} {N : Nat} {a : Option Addr} {len cap : Nat} {zs : List Int} (hd : Dr W w N a len cap zs) : N < w.heap.size := by
  obtain ⟨i, h, hi, hb⟩ := hd.cur
  exact (curAt_cells hb).2.2.2.2.2.2
theorem Dr.grownR {W w w' : World} {N : Nat} {a : Option Addr} {len cap : Nat} {zs : List Int} {r : Option Nat} (h : Dr W w N a len cap zs) (hg : w.grownBy w' r) (hr : ∀ k, r = some k → W.heap.size ≤ k ∧ k ≠ N) : Dr W w' N a len cap zs := by
  have hlt := h.lt
  obtain ⟨i, hh, hi, hb⟩ := h.cur
  exact ⟨h.base, h.bel.grown hg h.bel.size (fun k hk => (hr k hk).1), h.row, ⟨i, hh, hi, (hg.block N hlt (fun e => (hr N e.symm).2 rfl)).trans hb⟩⟩


def bentL : List Int := [1000000, 1000001, -1000001, -9223372036854775808]
theorem bentL_in : ∀ x ∈ bentL, InI64 x := by unfold InI64; decide
theorem Tiny.in64 {x : Int} (h : Tiny x) : InI64 x := by unfold Tiny at h; unfold InI64; omega


/-- What a draw of one list, of two, of a list and an int, of two ints, of a text gives. -/
def D1 (m : Nat) (B : Int → Prop) (W : World) (e : Ending) (w' : World) : Prop :=
  ∃ (L : List Int) (v : Value), L.length ≤ m ∧ (∀ x ∈ L, B x) ∧ e = .returned v ∧ w'.ownsRow W.heap.size 3 1 v L.length (L.map (Value.int .i64)) ∧ Below W.heap.size W w'
def D2 (m : Nat) (B : Int → Prop) (W : World) (e : Ending) (w' : World) : Prop :=
  ∃ (L M : List Int) (v u : Value), L.length ≤ m ∧ M.length ≤ m ∧ (∀ x ∈ L, B x) ∧ (∀ x ∈ M, B x) ∧ e = .returned (.tuple #[v, u]) ∧ w'.ownsRow W.heap.size 3 1 v L.length (L.map (Value.int .i64)) ∧ w'.ownsRow W.heap.size 3 1 u M.length (M.map (Value.int .i64)) ∧ Below W.heap.size W w'
def D1i (m : Nat) (B : Int → Prop) (W : World) (e : Ending) (w' : World) : Prop :=
  ∃ (L : List Int) (v : Value) (n : Int), L.length ≤ m ∧ (∀ x ∈ L, B x) ∧ InI64 n ∧ e = .returned (.tuple #[v, .int .i64 n]) ∧ w'.ownsRow W.heap.size 3 1 v L.length (L.map (Value.int .i64)) ∧ Below W.heap.size W w'
def Dii (W : World) (e : Ending) (w' : World) : Prop :=
  ∃ (n m : Int), InI64 n ∧ InI64 m ∧ e = .returned (.tuple #[.int .i64 n, .int .i64 m]) ∧ Below W.heap.size W w'
def Ds (k : Nat) (W : World) (e : Ending) (w' : World) : Prop :=
  ∃ s : ByteArray, s.size ≤ k ∧ e = .returned (.string s) ∧ Below W.heap.size W w'



theorem dr_row {W w w' : World} {N : Nat} {a : Option Addr} {len cap : Nat} {zs : List Int} {base : Nat} {v : Value} {n : Nat} {xs : List Value} (hd : Dr W w N a len cap zs) (h : w.ownsRow base 3 1 v n xs) (hN : N < base) (hg : w.grownBy w' (some N)) : w'.ownsRow base 3 1 v n xs :=
  have hl := h.lt
  row_kept h fun j hj => hg.block j (hl j hj).2 (fun e => by injection e with e; have := (hl j hj).1; have := hd.lt; omega)





end Go.Proofs.Ytljfiiohiolbnaa

/-
  CONTRACTS of the draws l1Turned and DrawParseList: a short text.
-/
namespace Go.Proofs.Ytljfiiohiolbnaa
open Go Go.RowKit


def turnL : List ByteArray := [⟨#[44]⟩, ⟨#[49]⟩, ⟨#[45]⟩, ⟨#[110, 111, 110, 101]⟩, ⟨#[48]⟩]
theorem turnL_size : ∀ s ∈ turnL, s.size ≤ 20 := by decide

end Go.Proofs.Ytljfiiohiolbnaa
