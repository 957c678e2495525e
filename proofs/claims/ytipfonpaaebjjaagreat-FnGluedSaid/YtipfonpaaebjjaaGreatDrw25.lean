/-
  DRAWS OF CHAPTER 22: l22Case, DrawGlueOf, l22List, DrawIsTelescopic (written by mkD25.py). (Own work.)
-/
import Derived.Test.YtipfonpaaebjjaaGreatDrS
import Derived.Test.YtipfonpaaebjjaaGreatL24
import Derived.Test.YtipfonpaaebjjaaGreatL18
namespace Go.Proofs.YtipfonpaaebjjaaGreat
open Go Go.RowKit

section
variable {P : Program} {o : Oper} {a : Act} {w : World} {K : Act → World → Prop} {Q : Exit → Act → World → Prop}
theorem wp_store_arrD (t : TypeId) (x y : Operand) (g : Nat) (old cs : List Value) (ho : o.op = .store t x y) (hx : a.eval x = .pointer (some ⟨g, 0, none⟩)) (hy : a.eval y = .agg cs.toArray) (hc : Arr w g t old) (hl : old.length = cs.length)
    (hi : (P.info? t).map (·.size) = some cs.length) (h1 : ∀ v ∈ cs, v.oneCell' = true)
    (h : ∀ w', Arr w' g t cs → w.grownBy w' (some g) → K (a.put o.dst undef) w') : o.wp P a w K Q := by
  refine wp_store_mid t x y ho g 0 cs.toArray hx hy (by have := hc.there; rw [hl] at this; simpa using this) (by simpa using hi) (all_oneCell_toArray h1) ?_
  obtain ⟨k1, k2⟩ := hc.setCells cs hl
  rw [List.toList_toArray]
  exact h _ k1 k2
end
theorem results_glu {P : Program} {fn : Func} {p q u v : Tmp} {ty : TypeId} (h : fn.results = #[.cell p ty, .cell q ty, .tmp u, .tmp v]) (tmps : Array Value) (w : World) (g1 g2 : Nat) (cs ds : List Value) (d : TypeDesc) (hp : tmps.getD p undef = .pointer (some ⟨g1, 0, none⟩)) (hq : tmps.getD q undef = .pointer (some ⟨g2, 0, none⟩)) (hc : Arr w g1 ty cs) (he : Arr w g2 ty ds)
    (hu : P.underlying ty = some d) (hd : d.isRow = true) (hi : (P.info? ty).map (·.size) = some cs.length) (hj : (P.info? ty).map (·.size) = some ds.length) : (results fn tmps).run P w = .ok (.tuple #[.agg cs.toArray, .agg ds.toArray, tmps.getD u undef, tmps.getD v undef]) w := by
  have hl := run_loadVar_mid w g1 0 ty cs d hc.range hu hd hi
  have hm := run_loadVar_mid w g2 0 ty ds d he.range hu hd hj
  have e : tmps[p]?.getD undef = .pointer (some ⟨g1, 0, none⟩) := by simpa using hp
  have e2 : tmps[q]?.getD undef = .pointer (some ⟨g2, 0, none⟩) := by simpa using hq
  simp only [results, h]
  simp [Result.andThen, e, e2, asAddr, hl, hm]
theorem newSecond (w : World) (o : Obj) (cs : List Value) : Arr ((w.alloc o).alloc (.cells cs.toArray 26)) (w.heap.size + 1) 26 cs := by
  have h := Arr.new (w.alloc o) 26 cs
  rw [show (w.alloc o).heap.size = w.heap.size + 1 by simp] at h
  exact h
theorem cell_newT (w : World) (cs : Array Value) (t : TypeId) (i : Nat) : (w.alloc (.cells cs t)).cell? ⟨w.heap.size, i, none⟩ = cs[i]? := by
  have := (Arr.new w t cs.toList).cell i
  rw [Array.toArray_toList] at this
  rw [this]; simp
theorem own_someD {w : World} {lo n c : Nat} {a : Option Addr} {L : List Int} (h : w.ownsRow lo 3 1 (.slice a n c) n (L.map (Value.int .i64))) (hn : L ≠ []) : ∃ g, a = some ⟨g, 0, none⟩ := by
  obtain ⟨hx, ⟨e, h0⟩ | ⟨g, cap, cur, e, -⟩⟩ := h
  · exfalso; rw [h0, List.length_map] at hx; exact hn (List.length_eq_zero_iff.1 (by omega))
  · cases e; exact ⟨g, rfl⟩
theorem addr_addD (b o j : Nat) : (⟨b, o, none⟩ : Addr).add j = ⟨b, o + j, none⟩ := by
  unfold Addr.add
  split
  · next h => subst h; rfl
  · rfl
theorem newsOfD {w : World} {b o : Nat} {L : List Int} (h : SlV w (some ⟨b, o, none⟩) (L.map (Value.int .i64))) : ∀ j u, (L.map (Value.int .i64))[j]? = some u → w.cell? ((⟨b, o, none⟩ : Addr).add j) = some u := fun j u hu => by
  rw [addr_addD]
  rcases h with h | ⟨b', o', e, -, hc⟩
  · rw [h] at hu; simp at hu
  · cases e; exact hc j u hu
theorem ints_oneD (L : List Int) : ∀ u ∈ L.map (Value.int .i64), u.oneCell' = true := by
  intro u hu
  obtain ⟨x, -, rfl⟩ := List.mem_map.1 hu
  rfl
theorem slwD {w : World} {g : Nat} {L : List Int} (h : Arr w g 3 (L.map (Value.int .i64))) (hn : L.length ≤ 3) : SlW w (some ⟨g, 0, none⟩) L.length (L.map (Value.int .i64)) := by
  refine ⟨.inr ⟨g, 0, rfl, h.lt, fun j u hu => ?_⟩, (fun e => by cases e), (by simp), (by unfold maxLen; omega)⟩
  rw [Nat.zero_add, h.cell j]; exact hu
theorem prodD {k n : Int} (hk : 2 ≤ k ∧ k ≤ 5) (hn : 2 ≤ n ∧ n ≤ 5) : 0 ≤ k * n ∧ k * n ≤ 25 := by
  have h1 := Int.mul_le_mul hk.2 hn.2 (by omega) (by omega)
  have h2 := Int.mul_nonneg (show 0 ≤ k by omega) (show 0 ≤ n by omega)
  omega
theorem prodD2 {k n : Int} (hk : 2 ≤ k ∧ k ≤ 5) (hn : 2 ≤ n ∧ n ≤ 5) : 0 ≤ k * (n + 1) ∧ k * (n + 1) ≤ 30 := by
  have h1 := Int.mul_le_mul hk.2 (show n + 1 ≤ 6 by omega) (by omega) (by omega)
  have h2 := Int.mul_nonneg (show 0 ≤ k by omega) (show 0 ≤ n + 1 by omega)
  omega
theorem prodD3 {k n m : Int} (hk : 2 ≤ k ∧ k ≤ 5) (hn : 2 ≤ n ∧ n ≤ 5) (h0 : 0 ≤ m) (h2 : m ≤ 2) : 0 ≤ (k + 1) * (n + m) ∧ (k + 1) * (n + m) ≤ 42 := by
  have h1 := Int.mul_le_mul (show k + 1 ≤ 6 by omega) (show n + m ≤ 7 by omega) (by omega) (by omega)
  have h3 := Int.mul_nonneg (show 0 ≤ k + 1 by omega) (show 0 ≤ n + m by omega)
  omega
def gluA : List ByteArray := [⟨#[60, 49, 62]⟩, ⟨#[60, 50, 44, 51, 62]⟩, ⟨#[60, 51, 44, 52, 62]⟩, ⟨#[60, 50, 44, 53, 62]⟩, ⟨#[60, 51, 44, 52, 44, 53, 62]⟩]
theorem gluA_size : ∀ s ∈ gluA, s.size ≤ 20 := by decide
def gluB' : List ByteArray := [⟨#[60, 49, 62]⟩, ⟨#[60, 50, 44, 51, 62]⟩, ⟨#[60, 49, 62]⟩, ⟨#[60, 50, 44, 53, 62]⟩]
theorem gluB'_size : ∀ s ∈ gluB', s.size ≤ 20 := by decide
def gluX : List Int := [0, 61, -1, 1]
theorem gluX_in : ∀ x ∈ gluX, InI64 x := by unfold InI64; decide
theorem semRead_in (s : ByteArray) : ∀ x ∈ semRead s, InI64 x := by
  intro x hx
  cases h : semO s with
  | none => unfold semRead at hx; rw [h] at hx; cases hx
  | some L =>
    unfold semRead at hx; rw [h] at hx
    have := (isSgB_iff.1 (semO_some h).1).bounds x hx
    unfold InI64; omega
def DSgg (W : World) (e : Ending) (w' : World) : Prop :=
  ∃ (L : List Int) (av : Option Addr) (cv : Nat) (M : List Int) (bv : Option Addr) (dv : Nat) (x y : Int), L.length ≤ 13 ∧ (∀ z ∈ L, InI64 z) ∧ M.length ≤ 13 ∧ (∀ z ∈ M, InI64 z) ∧ InI64 x ∧ InI64 y ∧ e = .returned (.tuple #[.agg #[.slice av L.length cv], .agg #[.slice bv M.length dv], .int .i64 x, .int .i64 y]) ∧ SlW w' av cv (L.map (Value.int .i64)) ∧ SlW w' bv dv (M.map (Value.int .i64)) ∧ (∀ p, av = some p → W.heap.size ≤ p.block) ∧ (∀ p, bv = some p → W.heap.size ≤ p.block) ∧ Below W.heap.size W w'

set_option maxRecDepth 100000 in
set_option maxHeartbeats 6400000 in
theorem l22Case_any (W : World) (a : Option Addr) (len cap : Nat) (zs : List Int) (hr : IsRow .u8 W a len cap zs) (hl : len ≤ 1048576) :
    Calls Tryz.prog 36 #[.slice a len cap] W (DSgg W) := by
  obtain ⟨dS, hdS, hrS⟩ := undSg
  obtain ⟨U, hU⟩ : ∃ U, U = (W.alloc (.cells [Value.slice none 0 0].toArray 26)).alloc (.cells [Value.slice none 0 0].toArray 26) := ⟨_, rfl⟩
  have hb : Below W.heap.size W U := by rw [hU]; exact (box_below _ _).alloc (by simp) _
  have hUe : U.heap.size = W.heap.size + 2 := by rw [hU]; simp
  have A_r2 : Arr U W.heap.size 26 [Value.slice none 0 0] := by rw [hU]; exact (Arr.new _ _ _).alloc _
  have A_r3 : Arr U (W.heap.size + 1) 26 [Value.slice none 0 0] := by rw [hU]; exact newSecond _ _ _
  have cn := l1New_any U a len cap zs (hr.below hb) hl
  have HU := Lib.hid hU
  clear hU hr
  go_enter Tryz.func36, Tryz.ntmps36
  go_wp2_with (first | (refine wpList_alloc_arr 26 [Value.slice none 0 0] zeroSg rfl rfl ?_))
  rw [← HU.out]
  clear HU
  refine cn.mono ?_
  rintro e w1 ⟨N, rfl, hd⟩
  have hNb := hd.base
  have hN1 := hd.lt
  clear cn
  replace A_r2 := A_r2.below hd.bel
  replace A_r3 := A_r3.below hd.bel
  replace hb := hb.trans (hd.bel.mono hb.size)
  have z_w1 := hd.bel.size
  go_wp2_with fail
  refine (l1Pick_dr (hd.alloc _) gluA w1.heap.size 5 (by decide) (by decide) (by simp) (by omega) ?_).mono ?_
  · intro i u h
    rw [cell_newT]
    rw [← List.getElem?_toArray] at h
    exact h
  rintro e w2 ⟨s, hs, rfl, hd2, hg⟩
  have hss := gluA_size s hs
  replace A_r2 := (A_r2.alloc _).grownN hg (by omega)
  replace A_r3 := (A_r3.alloc _).grownN hg (by omega)
  replace hb := (hb.alloc hb.size _).grown hg (by have := hb.size; simp; omega) (fun k hk => by cases hk; omega)
  have z_w2 : w1.heap.size + 1 ≤ w2.heap.size := by have := hg.size; simpa using this
  have hd := hd2
  clear hd2 hs hg
  have cp := spec_ParseSemigroup s w2 (by omega)
  have hla := semRead_length_le s
  have HIa := Lib.hid (semRead_in s)
  generalize semRead s = La at *
  generalize semOk s = oka at *
  go_wp2_with fail
  refine cp.mono ?_
  rintro e w3 ⟨v, rfl, ho, hb3⟩
  obtain ⟨a_a, c_a, rfl, rX⟩ := row_open ho
  clear cp
  have F_a : ∀ p, a_a = some p → p.block ≠ N ∧ W.heap.size + 2 ≤ p.block := fun p hp => by subst hp; have := ho.lt p.block rfl; omega
  replace A_r2 := A_r2.below hb3
  replace A_r3 := A_r3.below hb3
  replace hd := hd.belowW hb3
  replace hb := hb.trans (hb3.mono hb.size)
  have z_w3 := hb3.size
  have S_a := rX.slw
  clear rX ho hb3
  go_wp2_with (first | (refine wpList_alloc_arr 26 [Value.slice none 0 0] zeroSg rfl rfl ?_) | (refine wpList_store_arr 26 (.tmp 7) (.tmp 20) w3.heap.size [Value.slice none 0 0] [Value.slice a_a La.length c_a] rfl rfl rfl rfl (Arr.new w3 26 [Value.slice none 0 0]) rfl sizeSg (by simp [Value.oneCell']) ?_; intro w4 A_a hg3 hz3; clear hz3; have hbc := (box_below w3 (.cells [Value.slice none 0 0].toArray 26)).grown hg3 (by simp) (fun k hk => by cases hk; exact Nat.le_refl _)))
  replace A_r2 := A_r2.below hbc
  replace A_r3 := A_r3.below hbc
  replace S_a := S_a.below hbc
  replace hd := hd.belowW hbc
  replace hb := hb.trans (hbc.mono hb.size)
  have z_w4 := hbc.size
  have l_a := A_a.lt
  clear hg3 hbc
  go_wp2_with fail
  refine (l1Pick_dr (hd.alloc _) gluB' w4.heap.size 4 (by decide) (by decide) (by simp) (by omega) ?_).mono ?_
  · intro i u h
    rw [cell_newT]
    rw [← List.getElem?_toArray] at h
    exact h
  rintro e w5 ⟨s, hs, rfl, hd2, hg⟩
  have hss := gluB'_size s hs
  replace A_r2 := (A_r2.alloc _).grownN hg (by omega)
  replace A_r3 := (A_r3.alloc _).grownN hg (by omega)
  replace A_a := (A_a.alloc _).grownN hg (by omega)
  replace S_a := (S_a.below (box_below w4 _)).grownN hg (fun p hp => (F_a p hp).1)
  replace hb := (hb.alloc hb.size _).grown hg (by have := hb.size; simp; omega) (fun k hk => by cases hk; omega)
  have z_w5 : w4.heap.size + 1 ≤ w5.heap.size := by have := hg.size; simpa using this
  have hd := hd2
  clear hd2 hs hg
  have cp := spec_ParseSemigroup s w5 (by omega)
  have hlb := semRead_length_le s
  have HIb := Lib.hid (semRead_in s)
  generalize semRead s = Lb at *
  generalize semOk s = okb at *
  go_wp2_with fail
  refine cp.mono ?_
  rintro e w6 ⟨v, rfl, ho, hb3⟩
  obtain ⟨a_b, c_b, rfl, rX⟩ := row_open ho
  clear cp
  have F_b : ∀ p, a_b = some p → p.block ≠ N ∧ W.heap.size + 2 ≤ p.block := fun p hp => by subst hp; have := ho.lt p.block rfl; omega
  replace A_r2 := A_r2.below hb3
  replace A_r3 := A_r3.below hb3
  replace A_a := A_a.below hb3
  replace S_a := S_a.below hb3
  replace hd := hd.belowW hb3
  replace hb := hb.trans (hb3.mono hb.size)
  have z_w6 := hb3.size
  have S_b := rX.slw
  have W3b : ∀ p, a_b = some p → w3.heap.size < p.block := fun p hp => by subst hp; have := ho.lt p.block rfl; omega
  clear rX ho hb3
  go_wp2_with (first | (refine wpList_alloc_arr 26 [Value.slice none 0 0] zeroSg rfl rfl ?_) | (refine wpList_store_arr 26 (.tmp 9) (.tmp 27) w6.heap.size [Value.slice none 0 0] [Value.slice a_b Lb.length c_b] rfl rfl rfl rfl (Arr.new w6 26 [Value.slice none 0 0]) rfl sizeSg (by simp [Value.oneCell']) ?_; intro w7 A_b hg3 hz3; clear hz3; have hbc := (box_below w6 (.cells [Value.slice none 0 0].toArray 26)).grown hg3 (by simp) (fun k hk => by cases hk; exact Nat.le_refl _)))
  replace A_r2 := A_r2.below hbc
  replace A_r3 := A_r3.below hbc
  replace A_a := A_a.below hbc
  replace S_a := S_a.below hbc
  replace S_b := S_b.below hbc
  replace hd := hd.belowW hbc
  replace hb := hb.trans (hbc.mono hb.size)
  have z_w7 := hbc.size
  have l_b := A_b.lt
  clear hg3 hbc
  refine (l1Below_dr hd 10 (by decide)).mono ?_
  rintro e w8 ⟨x0, ⟨h0, h1⟩, rfl, hd2, hg⟩
  replace A_r2 := A_r2.grownN hg (by omega)
  replace A_r3 := A_r3.grownN hg (by omega)
  replace A_a := A_a.grownN hg (by omega)
  replace A_b := A_b.grownN hg (by omega)
  replace S_a := S_a.grownN hg (fun p hp => (F_a p hp).1)
  replace S_b := S_b.grownN hg (fun p hp => (F_b p hp).1)
  replace hb := hb.grown hg hb.size (fun k hk => by cases hk; omega)
  have z_w8 := hg.size
  have hd := hd2
  have hwx : IntKind.i64.wrap (2 + x0) = 2 + x0 := IntWalk.i64_in _ (by omega)
  have HBx : Hid (InI64 (2 + x0)) := Lib.hid (by unfold InI64; omega)
  clear hd2 hg h0 h1
  go_wp2_with fail
  clear hwx
  refine (l1Below_dr hd 10 (by decide)).mono ?_
  rintro e w9 ⟨y0, ⟨h0, h1⟩, rfl, hd2, hg⟩
  replace A_r2 := A_r2.grownN hg (by omega)
  replace A_r3 := A_r3.grownN hg (by omega)
  replace A_a := A_a.grownN hg (by omega)
  replace A_b := A_b.grownN hg (by omega)
  replace S_a := S_a.grownN hg (fun p hp => (F_a p hp).1)
  replace S_b := S_b.grownN hg (fun p hp => (F_b p hp).1)
  replace hb := hb.grown hg hb.size (fun k hk => by cases hk; omega)
  have z_w9 := hg.size
  have hd := hd2
  have hwy : IntKind.i64.wrap (2 + y0) = 2 + y0 := IntWalk.i64_in _ (by omega)
  have HBy : Hid (InI64 (2 + y0)) := Lib.hid (by unfold InI64; omega)
  clear hd2 hg h0 h1
  go_wp2_with fail
  clear hwy
  have HY := HBy
  refine (l1Once_dr hd 12 (by decide)).mono ?_
  rintro e w10 ⟨q, rfl, hd2, hg⟩
  replace A_r2 := A_r2.grownN hg (by omega)
  replace A_r3 := A_r3.grownN hg (by omega)
  replace A_a := A_a.grownN hg (by omega)
  replace A_b := A_b.grownN hg (by omega)
  replace S_a := S_a.grownN hg (fun p hp => (F_a p hp).1)
  replace S_b := S_b.grownN hg (fun p hp => (F_b p hp).1)
  replace hb := hb.grown hg hb.size (fun k hk => by cases hk; omega)
  have z_w10 := hg.size
  have hd := hd2
  clear hd2 hg
  cases q
  · go_wp2_with fail
    have HX := HBx
    refine (l1Once_dr hd 12 (by decide)).mono ?_
    rintro e w13 ⟨q, rfl, hd2, hg⟩
    replace A_r2 := A_r2.grownN hg (by omega)
    replace A_r3 := A_r3.grownN hg (by omega)
    replace A_a := A_a.grownN hg (by omega)
    replace A_b := A_b.grownN hg (by omega)
    replace S_a := S_a.grownN hg (fun p hp => (F_a p hp).1)
    replace S_b := S_b.grownN hg (fun p hp => (F_b p hp).1)
    replace hb := hb.grown hg hb.size (fun k hk => by cases hk; omega)
    have z_w13 := hg.size
    have hd := hd2
    clear hd2 hg
    cases q
    · have hS0 : w13.drew.cell? ⟨w3.heap.size, 0, none⟩ = some (.slice a_a La.length c_a) ∧ w13.drew.cell? ⟨w6.heap.size, 0, none⟩ = some (.slice a_b Lb.length c_b) := ⟨A_a.cell 0, A_b.cell 0⟩
      have A_r2' : Arr w13.drew W.heap.size 26 [Value.slice none 0 0] := A_r2.drew
      have A_r3' : Arr w13.drew (W.heap.size + 1) 26 [Value.slice none 0 0] := A_r3.drew
      have S_a' : SlW w13.drew a_a c_a (La.map (Value.int .i64)) := S_a.below (Below.refl _ _).drew
      have S_b' : SlW w13.drew a_b c_b (Lb.map (Value.int .i64)) := S_b.below (Below.refl _ _).drew
      have hb' : Below W.heap.size W w13.drew := hb.drew
      have zd : w13.heap.size ≤ w13.drew.heap.size := Nat.le_refl _
      clear A_r2 A_r3 A_a A_b S_a S_b hb
      go_wp2_with fail
      refine wp_region_held_drew (S := fun w' => w'.cell? ⟨w3.heap.size, 0, none⟩ = some (.slice a_a La.length c_a) ∧ w'.cell? ⟨w6.heap.size, 0, none⟩ = some (.slice a_b Lb.length c_b)) (by kernel_rfl) hS0 (fun hHeld => ?_)
      generalize w13.drew = wd at *
      refine held_take 0 _ _ rfl (by kernel_rfl) (by kernel_rfl) (by kernel_rfl) (fun _ _ _ h => h) (by rfl) hHeld (fun w hSw => by (try dsimp only at hSw); go_simp; try with_reducible rfl) ?_
      (try simp only [Act.put, List.setIfInBounds_toArray, List.set_cons_zero, List.set_cons_succ, List.getElem_toArray, List.getElem_cons_zero])
      refine held_take 1 _ _ rfl (by kernel_rfl) (by kernel_rfl) (by kernel_rfl) (fun _ _ _ h => h) (by rfl) hHeld (fun w hSw => by (try dsimp only at hSw); go_simp; try with_reducible rfl) ?_
      (try simp only [Act.put, List.setIfInBounds_toArray, List.set_cons_zero, List.set_cons_succ, List.getElem_toArray, List.getElem_cons_succ, List.getElem_cons_zero])
      refine held_take 2 _ _ rfl (by kernel_rfl) (by kernel_rfl) (by kernel_rfl) (fun _ _ _ h => h) (by rfl) hHeld (fun w hSw => by (try dsimp only at hSw); go_simp; try with_reducible rfl) ?_
      (try simp only [Act.put, List.setIfInBounds_toArray, List.set_cons_zero, List.set_cons_succ, List.getElem_toArray, List.getElem_cons_succ, List.getElem_cons_zero])
      refine held_take 3 _ _ rfl (by kernel_rfl) (by kernel_rfl) (by kernel_rfl) (fun _ _ _ h => h) (by rfl) hHeld (fun w hSw => by (try dsimp only at hSw); go_simp; try with_reducible rfl) ?_
      (try simp only [Act.put, List.setIfInBounds_toArray, List.set_cons_zero, List.set_cons_succ, List.getElem_toArray, List.getElem_cons_succ, List.getElem_cons_zero])
      refine wpAnyH_ready (rs := [4]) (by kernel_rfl) (by simp) ?_
      refine AllReadyH.cons rfl (fun K hK => ?_) AllReadyH.nil
      rw [if_pos (by rfl)]
      refine wp_store_arrD 26 (.tmp 2) (.tmp 44) W.heap.size [Value.slice none 0 0] [Value.slice a_a La.length c_a] (by rfl) (by rfl) (by rfl) A_r2' rfl sizeSg (by simp [Value.oneCell']) ?_
      intro wS hN2 hg7
      refine hK.out _ _ (⟨hg7.cell (hHeld).1 (fun e => by simp at e; omega), hg7.cell (hHeld).2 (fun e => by simp at e; omega)⟩) (fun hHeld1 => ?_)
      clear hK K
      (try simp only [Act.put, List.getElem_toArray, List.getElem_cons_succ, List.getElem_cons_zero])
      refine wpAnyH_ready (rs := [5]) (by kernel_rfl) (by simp) ?_
      refine AllReadyH.cons rfl (fun K hK => ?_) AllReadyH.nil
      rw [if_pos (by rfl)]
      refine wp_store_arrD 26 (.tmp 3) (.tmp 45) (W.heap.size + 1) [Value.slice none 0 0] [Value.slice a_b Lb.length c_b] (by rfl) (by rfl) (by rfl) (A_r3'.grownN hg7 (by omega)) rfl sizeSg (by simp [Value.oneCell']) ?_
      intro wT hN3 hg8
      refine hK.out _ _ (⟨hg8.cell (hHeld1).1 (fun e => by simp at e; omega), hg8.cell (hHeld1).2 (fun e => by simp at e; omega)⟩) (fun hHeld2 => ?_)
      clear hK K
      (try simp only [Act.put, List.getElem_toArray, List.getElem_cons_succ, List.getElem_cons_zero])
      refine held_take 6 _ _ rfl (by kernel_rfl) (by kernel_rfl) (by kernel_rfl) (fun _ _ _ h => h) (by rfl) hHeld2 (fun w hSw => by (try dsimp only at hSw); go_simp; try with_reducible rfl) ?_
      (try simp only [Act.put, List.setIfInBounds_toArray, List.set_cons_zero, List.set_cons_succ, List.getElem_toArray, List.getElem_cons_succ, List.getElem_cons_zero])
      refine held_take 7 _ _ rfl (by kernel_rfl) (by kernel_rfl) (by kernel_rfl) (fun _ _ _ h => h) (by rfl) hHeld2 (fun w hSw => by (try dsimp only at hSw); go_simp; try with_reducible rfl) ?_
      (try simp only [Act.put, List.setIfInBounds_toArray, List.set_cons_zero, List.set_cons_succ, List.getElem_toArray, List.getElem_cons_succ, List.getElem_cons_zero])
      refine wpAnyH_done (by kernel_rfl) ?_ _
      have hb8 := (hb'.grown hg7 hb'.size (fun k hk => by cases hk; exact Nat.le_refl _)).grown hg8 (by have := hb'.size; have := hg7.size; omega) (fun k hk => by cases hk; omega)
      have sa8 := (S_a'.grownN hg7 (fun p hp => by have := (F_a p hp).2; omega)).grownN hg8 (fun p hp => by have := (F_a p hp).2; omega)
      have sb8 := (S_b'.grownN hg7 (fun p hp => by have := (F_b p hp).2; omega)).grownN hg8 (fun p hp => by have := (F_b p hp).2; omega)
      have hN2' := hN2.grownN hg8 (by omega)
      clear hS0 hHeld2 hg7 hg8 hb' S_a' S_b'
      go_wp2_with fail
      exact bodyPost_ret (results_glu rfl _ _ W.heap.size (W.heap.size + 1) [Value.slice a_a La.length c_a] [Value.slice a_b Lb.length c_b] dS rfl rfl hN2' hN3 hdS hrS sizeSg sizeSg) rfl ⟨La, a_a, c_a, Lb, a_b, c_b, _, _, by omega, HIa.out, by omega, HIb.out, HX.out, HY.out, rfl, sa8, sb8, fun p hp => by have := (F_a p hp).2; omega, fun p hp => by have := (F_b p hp).2; omega, hb8⟩
    · go_wp2_with fail
      refine (l3Bent_dr hd).mono ?_
      rintro e w14 ⟨Lc, a_c, c_c, hlc, hIc, rfl, hsc, hfc, hd2, hg⟩
      have HIc := Lib.hid hIc
      have A_a0 := A_a.grownN hg (by omega)
      clear S_a A_a HIa F_a hla
      replace A_r2 := A_r2.grownN hg (by omega)
      replace A_r3 := A_r3.grownN hg (by omega)
      replace A_b := A_b.grownN hg (by omega)
      replace S_b := S_b.grownN hg (fun p hp => (F_b p hp).1)
      replace hb := hb.grown hg hb.size (fun k hk => by cases hk; omega)
      have z_w14 := hg.size
      have F_a : ∀ p, a_c = some p → p.block ≠ N ∧ W.heap.size + 2 ≤ p.block := fun p hp => by have := hfc p hp; have := hd2.lt; have := hd.lt; omega
      have HIa := HIc
      clear hd2 hg hIc hd
      go_wp2_with (first | (refine wpList_store_arr 26 (.tmp 7) (.tmp 43) w3.heap.size [Value.slice a_a La.length c_a] [Value.slice a_c Lc.length c_c] rfl rfl rfl rfl A_a0 rfl sizeSg (by simp [Value.oneCell']) ?_; intro w15 A_a hg3 hz3; clear hz3))
      replace A_r2 := A_r2.grownN hg3 (by omega)
      replace A_r3 := A_r3.grownN hg3 (by omega)
      replace A_b := A_b.grownN hg3 (by omega)
      have S_a := hsc.grownN hg3 (fun p hp => by have := hfc p hp; omega)
      replace S_b := S_b.grownN hg3 (fun p hp => by have := W3b p hp; omega)
      replace hb := hb.grown hg3 hb.size (fun k hk => by cases hk; omega)
      have z_w15 := hg3.size
      clear hg3 hsc A_a0
      have hS0 : w15.drew.cell? ⟨w3.heap.size, 0, none⟩ = some (.slice a_c Lc.length c_c) ∧ w15.drew.cell? ⟨w6.heap.size, 0, none⟩ = some (.slice a_b Lb.length c_b) := ⟨A_a.cell 0, A_b.cell 0⟩
      have A_r2' : Arr w15.drew W.heap.size 26 [Value.slice none 0 0] := A_r2.drew
      have A_r3' : Arr w15.drew (W.heap.size + 1) 26 [Value.slice none 0 0] := A_r3.drew
      have S_a' : SlW w15.drew a_c c_c (Lc.map (Value.int .i64)) := S_a.below (Below.refl _ _).drew
      have S_b' : SlW w15.drew a_b c_b (Lb.map (Value.int .i64)) := S_b.below (Below.refl _ _).drew
      have hb' : Below W.heap.size W w15.drew := hb.drew
      have zd : w15.heap.size ≤ w15.drew.heap.size := Nat.le_refl _
      clear A_r2 A_r3 A_a A_b S_a S_b hb
      go_wp2_with fail
      refine wp_region_held_drew (S := fun w' => w'.cell? ⟨w3.heap.size, 0, none⟩ = some (.slice a_c Lc.length c_c) ∧ w'.cell? ⟨w6.heap.size, 0, none⟩ = some (.slice a_b Lb.length c_b)) (by kernel_rfl) hS0 (fun hHeld => ?_)
      generalize w15.drew = wd at *
      refine held_take 0 _ _ rfl (by kernel_rfl) (by kernel_rfl) (by kernel_rfl) (fun _ _ _ h => h) (by rfl) hHeld (fun w hSw => by (try dsimp only at hSw); go_simp; try with_reducible rfl) ?_
      (try simp only [Act.put, List.setIfInBounds_toArray, List.set_cons_zero, List.set_cons_succ, List.getElem_toArray, List.getElem_cons_zero])
      refine held_take 1 _ _ rfl (by kernel_rfl) (by kernel_rfl) (by kernel_rfl) (fun _ _ _ h => h) (by rfl) hHeld (fun w hSw => by (try dsimp only at hSw); go_simp; try with_reducible rfl) ?_
      (try simp only [Act.put, List.setIfInBounds_toArray, List.set_cons_zero, List.set_cons_succ, List.getElem_toArray, List.getElem_cons_succ, List.getElem_cons_zero])
      refine held_take 2 _ _ rfl (by kernel_rfl) (by kernel_rfl) (by kernel_rfl) (fun _ _ _ h => h) (by rfl) hHeld (fun w hSw => by (try dsimp only at hSw); go_simp; try with_reducible rfl) ?_
      (try simp only [Act.put, List.setIfInBounds_toArray, List.set_cons_zero, List.set_cons_succ, List.getElem_toArray, List.getElem_cons_succ, List.getElem_cons_zero])
      refine held_take 3 _ _ rfl (by kernel_rfl) (by kernel_rfl) (by kernel_rfl) (fun _ _ _ h => h) (by rfl) hHeld (fun w hSw => by (try dsimp only at hSw); go_simp; try with_reducible rfl) ?_
      (try simp only [Act.put, List.setIfInBounds_toArray, List.set_cons_zero, List.set_cons_succ, List.getElem_toArray, List.getElem_cons_succ, List.getElem_cons_zero])
      refine wpAnyH_ready (rs := [4]) (by kernel_rfl) (by simp) ?_
      refine AllReadyH.cons rfl (fun K hK => ?_) AllReadyH.nil
      rw [if_pos (by rfl)]
      refine wp_store_arrD 26 (.tmp 2) (.tmp 44) W.heap.size [Value.slice none 0 0] [Value.slice a_c Lc.length c_c] (by rfl) (by rfl) (by rfl) A_r2' rfl sizeSg (by simp [Value.oneCell']) ?_
      intro wS hN2 hg7
      refine hK.out _ _ (⟨hg7.cell (hHeld).1 (fun e => by simp at e; omega), hg7.cell (hHeld).2 (fun e => by simp at e; omega)⟩) (fun hHeld1 => ?_)
      clear hK K
      (try simp only [Act.put, List.getElem_toArray, List.getElem_cons_succ, List.getElem_cons_zero])
      refine wpAnyH_ready (rs := [5]) (by kernel_rfl) (by simp) ?_
      refine AllReadyH.cons rfl (fun K hK => ?_) AllReadyH.nil
      rw [if_pos (by rfl)]
      refine wp_store_arrD 26 (.tmp 3) (.tmp 45) (W.heap.size + 1) [Value.slice none 0 0] [Value.slice a_b Lb.length c_b] (by rfl) (by rfl) (by rfl) (A_r3'.grownN hg7 (by omega)) rfl sizeSg (by simp [Value.oneCell']) ?_
      intro wT hN3 hg8
      refine hK.out _ _ (⟨hg8.cell (hHeld1).1 (fun e => by simp at e; omega), hg8.cell (hHeld1).2 (fun e => by simp at e; omega)⟩) (fun hHeld2 => ?_)
      clear hK K
      (try simp only [Act.put, List.getElem_toArray, List.getElem_cons_succ, List.getElem_cons_zero])
      refine held_take 6 _ _ rfl (by kernel_rfl) (by kernel_rfl) (by kernel_rfl) (fun _ _ _ h => h) (by rfl) hHeld2 (fun w hSw => by (try dsimp only at hSw); go_simp; try with_reducible rfl) ?_
      (try simp only [Act.put, List.setIfInBounds_toArray, List.set_cons_zero, List.set_cons_succ, List.getElem_toArray, List.getElem_cons_succ, List.getElem_cons_zero])
      refine held_take 7 _ _ rfl (by kernel_rfl) (by kernel_rfl) (by kernel_rfl) (fun _ _ _ h => h) (by rfl) hHeld2 (fun w hSw => by (try dsimp only at hSw); go_simp; try with_reducible rfl) ?_
      (try simp only [Act.put, List.setIfInBounds_toArray, List.set_cons_zero, List.set_cons_succ, List.getElem_toArray, List.getElem_cons_succ, List.getElem_cons_zero])
      refine wpAnyH_done (by kernel_rfl) ?_ _
      have hb8 := (hb'.grown hg7 hb'.size (fun k hk => by cases hk; exact Nat.le_refl _)).grown hg8 (by have := hb'.size; have := hg7.size; omega) (fun k hk => by cases hk; omega)
      have sa8 := (S_a'.grownN hg7 (fun p hp => by have := (F_a p hp).2; omega)).grownN hg8 (fun p hp => by have := (F_a p hp).2; omega)
      have sb8 := (S_b'.grownN hg7 (fun p hp => by have := (F_b p hp).2; omega)).grownN hg8 (fun p hp => by have := (F_b p hp).2; omega)
      have hN2' := hN2.grownN hg8 (by omega)
      clear hS0 hHeld2 hg7 hg8 hb' S_a' S_b'
      go_wp2_with fail
      exact bodyPost_ret (results_glu rfl _ _ W.heap.size (W.heap.size + 1) [Value.slice a_c Lc.length c_c] [Value.slice a_b Lb.length c_b] dS rfl rfl hN2' hN3 hdS hrS sizeSg sizeSg) rfl ⟨Lc, a_c, c_c, Lb, a_b, c_b, _, _, by omega, HIa.out, by omega, HIb.out, HX.out, HY.out, rfl, sa8, sb8, fun p hp => by have := (F_a p hp).2; omega, fun p hp => by have := (F_b p hp).2; omega, hb8⟩
  · go_wp2_with fail
    refine (l1PickInt_dr (hd.alloc _) gluX w10.heap.size 4 (by decide) (by decide) (by simp) (by omega) ?_).mono ?_
    · intro i u h
      rw [cell_newT]
      rw [← List.getElem?_toArray] at h
      exact h
    rintro e w11 ⟨x', hx', rfl, hd2, hg⟩
    have HX : Hid (InI64 x') := Lib.hid (gluX_in x' hx')
    replace A_r2 := (A_r2.alloc _).grownN hg (by omega)
    replace A_r3 := (A_r3.alloc _).grownN hg (by omega)
    replace A_a := (A_a.alloc _).grownN hg (by omega)
    replace A_b := (A_b.alloc _).grownN hg (by omega)
    replace S_a := (S_a.below (box_below w10 _)).grownN hg (fun p hp => (F_a p hp).1)
    replace S_b := (S_b.below (box_below w10 _)).grownN hg (fun p hp => (F_b p hp).1)
    replace hb := (hb.alloc hb.size _).grown hg (by have := hb.size; simp; omega) (fun k hk => by cases hk; omega)
    have z_w11 : w10.heap.size + 1 ≤ w11.heap.size := by have := hg.size; simpa using this
    have hd := hd2
    clear hd2 hx' hg
    go_wp2_with fail
    refine (l1Once_dr hd 12 (by decide)).mono ?_
    rintro e w13 ⟨q, rfl, hd2, hg⟩
    replace A_r2 := A_r2.grownN hg (by omega)
    replace A_r3 := A_r3.grownN hg (by omega)
    replace A_a := A_a.grownN hg (by omega)
    replace A_b := A_b.grownN hg (by omega)
    replace S_a := S_a.grownN hg (fun p hp => (F_a p hp).1)
    replace S_b := S_b.grownN hg (fun p hp => (F_b p hp).1)
    replace hb := hb.grown hg hb.size (fun k hk => by cases hk; omega)
    have z_w13 := hg.size
    have hd := hd2
    clear hd2 hg
    cases q
    · have hS0 : w13.drew.cell? ⟨w3.heap.size, 0, none⟩ = some (.slice a_a La.length c_a) ∧ w13.drew.cell? ⟨w6.heap.size, 0, none⟩ = some (.slice a_b Lb.length c_b) := ⟨A_a.cell 0, A_b.cell 0⟩
      have A_r2' : Arr w13.drew W.heap.size 26 [Value.slice none 0 0] := A_r2.drew
      have A_r3' : Arr w13.drew (W.heap.size + 1) 26 [Value.slice none 0 0] := A_r3.drew
      have S_a' : SlW w13.drew a_a c_a (La.map (Value.int .i64)) := S_a.below (Below.refl _ _).drew
      have S_b' : SlW w13.drew a_b c_b (Lb.map (Value.int .i64)) := S_b.below (Below.refl _ _).drew
      have hb' : Below W.heap.size W w13.drew := hb.drew
      have zd : w13.heap.size ≤ w13.drew.heap.size := Nat.le_refl _
      clear A_r2 A_r3 A_a A_b S_a S_b hb
      go_wp2_with fail
      refine wp_region_held_drew (S := fun w' => w'.cell? ⟨w3.heap.size, 0, none⟩ = some (.slice a_a La.length c_a) ∧ w'.cell? ⟨w6.heap.size, 0, none⟩ = some (.slice a_b Lb.length c_b)) (by kernel_rfl) hS0 (fun hHeld => ?_)
      generalize w13.drew = wd at *
      refine held_take 0 _ _ rfl (by kernel_rfl) (by kernel_rfl) (by kernel_rfl) (fun _ _ _ h => h) (by rfl) hHeld (fun w hSw => by (try dsimp only at hSw); go_simp; try with_reducible rfl) ?_
      (try simp only [Act.put, List.setIfInBounds_toArray, List.set_cons_zero, List.set_cons_succ, List.getElem_toArray, List.getElem_cons_zero])
      refine held_take 1 _ _ rfl (by kernel_rfl) (by kernel_rfl) (by kernel_rfl) (fun _ _ _ h => h) (by rfl) hHeld (fun w hSw => by (try dsimp only at hSw); go_simp; try with_reducible rfl) ?_
      (try simp only [Act.put, List.setIfInBounds_toArray, List.set_cons_zero, List.set_cons_succ, List.getElem_toArray, List.getElem_cons_succ, List.getElem_cons_zero])
      refine held_take 2 _ _ rfl (by kernel_rfl) (by kernel_rfl) (by kernel_rfl) (fun _ _ _ h => h) (by rfl) hHeld (fun w hSw => by (try dsimp only at hSw); go_simp; try with_reducible rfl) ?_
      (try simp only [Act.put, List.setIfInBounds_toArray, List.set_cons_zero, List.set_cons_succ, List.getElem_toArray, List.getElem_cons_succ, List.getElem_cons_zero])
      refine held_take 3 _ _ rfl (by kernel_rfl) (by kernel_rfl) (by kernel_rfl) (fun _ _ _ h => h) (by rfl) hHeld (fun w hSw => by (try dsimp only at hSw); go_simp; try with_reducible rfl) ?_
      (try simp only [Act.put, List.setIfInBounds_toArray, List.set_cons_zero, List.set_cons_succ, List.getElem_toArray, List.getElem_cons_succ, List.getElem_cons_zero])
      refine wpAnyH_ready (rs := [4]) (by kernel_rfl) (by simp) ?_
      refine AllReadyH.cons rfl (fun K hK => ?_) AllReadyH.nil
      rw [if_pos (by rfl)]
      refine wp_store_arrD 26 (.tmp 2) (.tmp 44) W.heap.size [Value.slice none 0 0] [Value.slice a_a La.length c_a] (by rfl) (by rfl) (by rfl) A_r2' rfl sizeSg (by simp [Value.oneCell']) ?_
      intro wS hN2 hg7
      refine hK.out _ _ (⟨hg7.cell (hHeld).1 (fun e => by simp at e; omega), hg7.cell (hHeld).2 (fun e => by simp at e; omega)⟩) (fun hHeld1 => ?_)
      clear hK K
      (try simp only [Act.put, List.getElem_toArray, List.getElem_cons_succ, List.getElem_cons_zero])
      refine wpAnyH_ready (rs := [5]) (by kernel_rfl) (by simp) ?_
      refine AllReadyH.cons rfl (fun K hK => ?_) AllReadyH.nil
      rw [if_pos (by rfl)]
      refine wp_store_arrD 26 (.tmp 3) (.tmp 45) (W.heap.size + 1) [Value.slice none 0 0] [Value.slice a_b Lb.length c_b] (by rfl) (by rfl) (by rfl) (A_r3'.grownN hg7 (by omega)) rfl sizeSg (by simp [Value.oneCell']) ?_
      intro wT hN3 hg8
      refine hK.out _ _ (⟨hg8.cell (hHeld1).1 (fun e => by simp at e; omega), hg8.cell (hHeld1).2 (fun e => by simp at e; omega)⟩) (fun hHeld2 => ?_)
      clear hK K
      (try simp only [Act.put, List.getElem_toArray, List.getElem_cons_succ, List.getElem_cons_zero])
      refine held_take 6 _ _ rfl (by kernel_rfl) (by kernel_rfl) (by kernel_rfl) (fun _ _ _ h => h) (by rfl) hHeld2 (fun w hSw => by (try dsimp only at hSw); go_simp; try with_reducible rfl) ?_
      (try simp only [Act.put, List.setIfInBounds_toArray, List.set_cons_zero, List.set_cons_succ, List.getElem_toArray, List.getElem_cons_succ, List.getElem_cons_zero])
      refine held_take 7 _ _ rfl (by kernel_rfl) (by kernel_rfl) (by kernel_rfl) (fun _ _ _ h => h) (by rfl) hHeld2 (fun w hSw => by (try dsimp only at hSw); go_simp; try with_reducible rfl) ?_
      (try simp only [Act.put, List.setIfInBounds_toArray, List.set_cons_zero, List.set_cons_succ, List.getElem_toArray, List.getElem_cons_succ, List.getElem_cons_zero])
      refine wpAnyH_done (by kernel_rfl) ?_ _
      have hb8 := (hb'.grown hg7 hb'.size (fun k hk => by cases hk; exact Nat.le_refl _)).grown hg8 (by have := hb'.size; have := hg7.size; omega) (fun k hk => by cases hk; omega)
      have sa8 := (S_a'.grownN hg7 (fun p hp => by have := (F_a p hp).2; omega)).grownN hg8 (fun p hp => by have := (F_a p hp).2; omega)
      have sb8 := (S_b'.grownN hg7 (fun p hp => by have := (F_b p hp).2; omega)).grownN hg8 (fun p hp => by have := (F_b p hp).2; omega)
      have hN2' := hN2.grownN hg8 (by omega)
      clear hS0 hHeld2 hg7 hg8 hb' S_a' S_b'
      go_wp2_with fail
      exact bodyPost_ret (results_glu rfl _ _ W.heap.size (W.heap.size + 1) [Value.slice a_a La.length c_a] [Value.slice a_b Lb.length c_b] dS rfl rfl hN2' hN3 hdS hrS sizeSg sizeSg) rfl ⟨La, a_a, c_a, Lb, a_b, c_b, _, _, by omega, HIa.out, by omega, HIb.out, HX.out, HY.out, rfl, sa8, sb8, fun p hp => by have := (F_a p hp).2; omega, fun p hp => by have := (F_b p hp).2; omega, hb8⟩
    · go_wp2_with fail
      refine (l3Bent_dr hd).mono ?_
      rintro e w14 ⟨Lc, a_c, c_c, hlc, hIc, rfl, hsc, hfc, hd2, hg⟩
      have HIc := Lib.hid hIc
      have A_a0 := A_a.grownN hg (by omega)
      clear S_a A_a HIa F_a hla
      replace A_r2 := A_r2.grownN hg (by omega)
      replace A_r3 := A_r3.grownN hg (by omega)
      replace A_b := A_b.grownN hg (by omega)
      replace S_b := S_b.grownN hg (fun p hp => (F_b p hp).1)
      replace hb := hb.grown hg hb.size (fun k hk => by cases hk; omega)
      have z_w14 := hg.size
      have F_a : ∀ p, a_c = some p → p.block ≠ N ∧ W.heap.size + 2 ≤ p.block := fun p hp => by have := hfc p hp; have := hd2.lt; have := hd.lt; omega
      have HIa := HIc
      clear hd2 hg hIc hd
      go_wp2_with (first | (refine wpList_store_arr 26 (.tmp 7) (.tmp 43) w3.heap.size [Value.slice a_a La.length c_a] [Value.slice a_c Lc.length c_c] rfl rfl rfl rfl A_a0 rfl sizeSg (by simp [Value.oneCell']) ?_; intro w15 A_a hg3 hz3; clear hz3))
      replace A_r2 := A_r2.grownN hg3 (by omega)
      replace A_r3 := A_r3.grownN hg3 (by omega)
      replace A_b := A_b.grownN hg3 (by omega)
      have S_a := hsc.grownN hg3 (fun p hp => by have := hfc p hp; omega)
      replace S_b := S_b.grownN hg3 (fun p hp => by have := W3b p hp; omega)
      replace hb := hb.grown hg3 hb.size (fun k hk => by cases hk; omega)
      have z_w15 := hg3.size
      clear hg3 hsc A_a0
      have hS0 : w15.drew.cell? ⟨w3.heap.size, 0, none⟩ = some (.slice a_c Lc.length c_c) ∧ w15.drew.cell? ⟨w6.heap.size, 0, none⟩ = some (.slice a_b Lb.length c_b) := ⟨A_a.cell 0, A_b.cell 0⟩
      have A_r2' : Arr w15.drew W.heap.size 26 [Value.slice none 0 0] := A_r2.drew
      have A_r3' : Arr w15.drew (W.heap.size + 1) 26 [Value.slice none 0 0] := A_r3.drew
      have S_a' : SlW w15.drew a_c c_c (Lc.map (Value.int .i64)) := S_a.below (Below.refl _ _).drew
      have S_b' : SlW w15.drew a_b c_b (Lb.map (Value.int .i64)) := S_b.below (Below.refl _ _).drew
      have hb' : Below W.heap.size W w15.drew := hb.drew
      have zd : w15.heap.size ≤ w15.drew.heap.size := Nat.le_refl _
      clear A_r2 A_r3 A_a A_b S_a S_b hb
      go_wp2_with fail
      refine wp_region_held_drew (S := fun w' => w'.cell? ⟨w3.heap.size, 0, none⟩ = some (.slice a_c Lc.length c_c) ∧ w'.cell? ⟨w6.heap.size, 0, none⟩ = some (.slice a_b Lb.length c_b)) (by kernel_rfl) hS0 (fun hHeld => ?_)
      generalize w15.drew = wd at *
      refine held_take 0 _ _ rfl (by kernel_rfl) (by kernel_rfl) (by kernel_rfl) (fun _ _ _ h => h) (by rfl) hHeld (fun w hSw => by (try dsimp only at hSw); go_simp; try with_reducible rfl) ?_
      (try simp only [Act.put, List.setIfInBounds_toArray, List.set_cons_zero, List.set_cons_succ, List.getElem_toArray, List.getElem_cons_zero])
      refine held_take 1 _ _ rfl (by kernel_rfl) (by kernel_rfl) (by kernel_rfl) (fun _ _ _ h => h) (by rfl) hHeld (fun w hSw => by (try dsimp only at hSw); go_simp; try with_reducible rfl) ?_
      (try simp only [Act.put, List.setIfInBounds_toArray, List.set_cons_zero, List.set_cons_succ, List.getElem_toArray, List.getElem_cons_succ, List.getElem_cons_zero])
      refine held_take 2 _ _ rfl (by kernel_rfl) (by kernel_rfl) (by kernel_rfl) (fun _ _ _ h => h) (by rfl) hHeld (fun w hSw => by (try dsimp only at hSw); go_simp; try with_reducible rfl) ?_
      (try simp only [Act.put, List.setIfInBounds_toArray, List.set_cons_zero, List.set_cons_succ, List.getElem_toArray, List.getElem_cons_succ, List.getElem_cons_zero])
      refine held_take 3 _ _ rfl (by kernel_rfl) (by kernel_rfl) (by kernel_rfl) (fun _ _ _ h => h) (by rfl) hHeld (fun w hSw => by (try dsimp only at hSw); go_simp; try with_reducible rfl) ?_
      (try simp only [Act.put, List.setIfInBounds_toArray, List.set_cons_zero, List.set_cons_succ, List.getElem_toArray, List.getElem_cons_succ, List.getElem_cons_zero])
      refine wpAnyH_ready (rs := [4]) (by kernel_rfl) (by simp) ?_
      refine AllReadyH.cons rfl (fun K hK => ?_) AllReadyH.nil
      rw [if_pos (by rfl)]
      refine wp_store_arrD 26 (.tmp 2) (.tmp 44) W.heap.size [Value.slice none 0 0] [Value.slice a_c Lc.length c_c] (by rfl) (by rfl) (by rfl) A_r2' rfl sizeSg (by simp [Value.oneCell']) ?_
      intro wS hN2 hg7
      refine hK.out _ _ (⟨hg7.cell (hHeld).1 (fun e => by simp at e; omega), hg7.cell (hHeld).2 (fun e => by simp at e; omega)⟩) (fun hHeld1 => ?_)
      clear hK K
      (try simp only [Act.put, List.getElem_toArray, List.getElem_cons_succ, List.getElem_cons_zero])
      refine wpAnyH_ready (rs := [5]) (by kernel_rfl) (by simp) ?_
      refine AllReadyH.cons rfl (fun K hK => ?_) AllReadyH.nil
      rw [if_pos (by rfl)]
      refine wp_store_arrD 26 (.tmp 3) (.tmp 45) (W.heap.size + 1) [Value.slice none 0 0] [Value.slice a_b Lb.length c_b] (by rfl) (by rfl) (by rfl) (A_r3'.grownN hg7 (by omega)) rfl sizeSg (by simp [Value.oneCell']) ?_
      intro wT hN3 hg8
      refine hK.out _ _ (⟨hg8.cell (hHeld1).1 (fun e => by simp at e; omega), hg8.cell (hHeld1).2 (fun e => by simp at e; omega)⟩) (fun hHeld2 => ?_)
      clear hK K
      (try simp only [Act.put, List.getElem_toArray, List.getElem_cons_succ, List.getElem_cons_zero])
      refine held_take 6 _ _ rfl (by kernel_rfl) (by kernel_rfl) (by kernel_rfl) (fun _ _ _ h => h) (by rfl) hHeld2 (fun w hSw => by (try dsimp only at hSw); go_simp; try with_reducible rfl) ?_
      (try simp only [Act.put, List.setIfInBounds_toArray, List.set_cons_zero, List.set_cons_succ, List.getElem_toArray, List.getElem_cons_succ, List.getElem_cons_zero])
      refine held_take 7 _ _ rfl (by kernel_rfl) (by kernel_rfl) (by kernel_rfl) (fun _ _ _ h => h) (by rfl) hHeld2 (fun w hSw => by (try dsimp only at hSw); go_simp; try with_reducible rfl) ?_
      (try simp only [Act.put, List.setIfInBounds_toArray, List.set_cons_zero, List.set_cons_succ, List.getElem_toArray, List.getElem_cons_succ, List.getElem_cons_zero])
      refine wpAnyH_done (by kernel_rfl) ?_ _
      have hb8 := (hb'.grown hg7 hb'.size (fun k hk => by cases hk; exact Nat.le_refl _)).grown hg8 (by have := hb'.size; have := hg7.size; omega) (fun k hk => by cases hk; omega)
      have sa8 := (S_a'.grownN hg7 (fun p hp => by have := (F_a p hp).2; omega)).grownN hg8 (fun p hp => by have := (F_a p hp).2; omega)
      have sb8 := (S_b'.grownN hg7 (fun p hp => by have := (F_b p hp).2; omega)).grownN hg8 (fun p hp => by have := (F_b p hp).2; omega)
      have hN2' := hN2.grownN hg8 (by omega)
      clear hS0 hHeld2 hg7 hg8 hb' S_a' S_b'
      go_wp2_with fail
      exact bodyPost_ret (results_glu rfl _ _ W.heap.size (W.heap.size + 1) [Value.slice a_c Lc.length c_c] [Value.slice a_b Lb.length c_b] dS rfl rfl hN2' hN3 hdS hrS sizeSg sizeSg) rfl ⟨Lc, a_c, c_c, Lb, a_b, c_b, _, _, by omega, HIa.out, by omega, HIb.out, HX.out, HY.out, rfl, sa8, sb8, fun p hp => by have := (F_a p hp).2; omega, fun p hp => by have := (F_b p hp).2; omega, hb8⟩

set_option maxRecDepth 100000 in
set_option maxHeartbeats 6400000 in
theorem DrawGlueOf_any (W : World) (a : Option Addr) (len cap : Nat) (zs : List Int) (hr : IsRow .u8 W a len cap zs) (hl : len ≤ 1048576) :
    Calls Tryz.prog 6 #[.slice a len cap] W (DSgg W) := by
  obtain ⟨dS, hdS, hrS⟩ := undSg
  obtain ⟨U, hU⟩ : ∃ U, U = (W.alloc (.cells [Value.slice none 0 0].toArray 26)).alloc (.cells [Value.slice none 0 0].toArray 26) := ⟨_, rfl⟩
  have hb : Below W.heap.size W U := by rw [hU]; exact (box_below _ _).alloc (by simp) _
  have hUe : U.heap.size = W.heap.size + 2 := by rw [hU]; simp
  have A_r2 : Arr U W.heap.size 26 [Value.slice none 0 0] := by rw [hU]; exact (Arr.new _ _ _).alloc _
  have A_r3 : Arr U (W.heap.size + 1) 26 [Value.slice none 0 0] := by rw [hU]; exact newSecond _ _ _
  have cq := l22Case_any U a len cap zs (hr.below hb) hl
  have HU := Lib.hid hU
  clear hU hr
  go_enter Tryz.func6, Tryz.ntmps6
  go_wp2_with (first | (refine wpList_alloc_arr 26 [Value.slice none 0 0] zeroSg rfl rfl ?_))
  rw [← HU.out]
  clear HU
  refine cq.mono ?_
  rintro e w1 ⟨La, a_a, c_a, Lb, a_b, c_b, x, y, hla, hIa, hlb, hIb, hX, hY, rfl, S_a, S_b, G_a, G_b, hbq⟩
  clear cq
  have HIa := Lib.hid hIa
  have HIb := Lib.hid hIb
  have HX := Lib.hid hX
  have HY := Lib.hid hY
  replace A_r2 := A_r2.below hbq
  replace A_r3 := A_r3.below hbq
  replace hb := hb.trans (hbq.mono hb.size)
  have z1 := hbq.size
  clear hIa hIb hX hY hbq
  have F_a : ∀ p, a_a = some p → True ∧ W.heap.size + 2 ≤ p.block := fun p hp => ⟨trivial, by have := G_a p hp; omega⟩
  have F_b : ∀ p, a_b = some p → True ∧ W.heap.size + 2 ≤ p.block := fun p hp => ⟨trivial, by have := G_b p hp; omega⟩
  have hbY : Below w1.heap.size w1 ((w1.alloc (.cells [Value.slice none 0 0].toArray 26)).alloc (.cells [Value.slice none 0 0].toArray 26)) := (box_below _ _).alloc (by simp) _
  have A_a0 : Arr ((w1.alloc (.cells [Value.slice none 0 0].toArray 26)).alloc (.cells [Value.slice none 0 0].toArray 26)) w1.heap.size 26 [Value.slice none 0 0] := (Arr.new _ _ _).alloc _
  have A_b0 : Arr ((w1.alloc (.cells [Value.slice none 0 0].toArray 26)).alloc (.cells [Value.slice none 0 0].toArray 26)) (w1.heap.size + 1) 26 [Value.slice none 0 0] := newSecond _ _ _
  have zY : w1.heap.size + 2 ≤ ((w1.alloc (.cells [Value.slice none 0 0].toArray 26)).alloc (.cells [Value.slice none 0 0].toArray 26)).heap.size := A_b0.lt
  go_wp2_with (first | (refine wpList_alloc_arr 26 [Value.slice none 0 0] zeroSg rfl rfl ?_) | (refine wpList_store_arr 26 (.tmp 6) (.tmp 13) w1.heap.size [Value.slice none 0 0] [Value.slice a_a La.length c_a] rfl rfl rfl rfl A_a0 rfl sizeSg (by simp [Value.oneCell']) ?_; intro w2 A_a hg2 hz2; clear hz2; have A_b1 : Arr w2 (w1.alloc (.cells [Value.slice none 0 0].toArray 26)).heap.size 26 [Value.slice none 0 0] := (Arr.new (w1.alloc (.cells [Value.slice none 0 0].toArray 26)) 26 [Value.slice none 0 0]).grownN hg2 (by simp)) | (refine wpList_store_arr 26 (.tmp 7) (.tmp 14) (w1.alloc (.cells [Value.slice none 0 0].toArray 26)).heap.size [Value.slice none 0 0] [Value.slice a_b Lb.length c_b] rfl rfl rfl rfl A_b1 rfl sizeSg (by simp [Value.oneCell']) ?_; intro w3 A_b hg3 hz3; clear hz3; rw [show (w1.alloc (.cells [Value.slice none 0 0].toArray 26)).heap.size = w1.heap.size + 1 by simp] at A_b hg3))
  replace A_a := A_a.grownN hg3 (by omega)
  have hb3 : Below w1.heap.size w1 w3 := (hbY.grown hg2 (by omega) (fun k hk => by cases hk; exact Nat.le_refl _)).grown hg3 (by have := hg2.size; omega) (fun k hk => by cases hk; omega)
  replace A_r2 := A_r2.below hb3
  replace A_r3 := A_r3.below hb3
  replace S_a := S_a.below hb3
  replace S_b := S_b.below hb3
  replace hb := hb.trans (hb3.mono hb.size)
  have z_w3 := hb3.size
  clear hbY hb3 hg2 hg3 A_a0 A_b0 A_b1
  have hS0 : w3.drew.cell? ⟨w1.heap.size, 0, none⟩ = some (.slice a_a La.length c_a) ∧ w3.drew.cell? ⟨(w1.heap.size + 1), 0, none⟩ = some (.slice a_b Lb.length c_b) := ⟨A_a.cell 0, A_b.cell 0⟩
  have A_r2' : Arr w3.drew W.heap.size 26 [Value.slice none 0 0] := A_r2.drew
  have A_r3' : Arr w3.drew (W.heap.size + 1) 26 [Value.slice none 0 0] := A_r3.drew
  have S_a' : SlW w3.drew a_a c_a (La.map (Value.int .i64)) := S_a.below (Below.refl _ _).drew
  have S_b' : SlW w3.drew a_b c_b (Lb.map (Value.int .i64)) := S_b.below (Below.refl _ _).drew
  have hb' : Below W.heap.size W w3.drew := hb.drew
  have zd : w3.heap.size ≤ w3.drew.heap.size := Nat.le_refl _
  clear A_r2 A_r3 A_a A_b S_a S_b hb
  go_wp2_with fail
  refine wp_region_held_drew (S := fun w' => w'.cell? ⟨w1.heap.size, 0, none⟩ = some (.slice a_a La.length c_a) ∧ w'.cell? ⟨(w1.heap.size + 1), 0, none⟩ = some (.slice a_b Lb.length c_b)) (by kernel_rfl) hS0 (fun hHeld => ?_)
  generalize w3.drew = wd at *
  refine held_take 0 _ _ rfl (by kernel_rfl) (by kernel_rfl) (by kernel_rfl) (fun _ _ _ h => h) (by rfl) hHeld (fun w hSw => by (try dsimp only at hSw); go_simp; try with_reducible rfl) ?_
  (try simp only [Act.put, List.setIfInBounds_toArray, List.set_cons_zero, List.set_cons_succ, List.getElem_toArray, List.getElem_cons_zero])
  refine held_take 1 _ _ rfl (by kernel_rfl) (by kernel_rfl) (by kernel_rfl) (fun _ _ _ h => h) (by rfl) hHeld (fun w hSw => by (try dsimp only at hSw); go_simp; try with_reducible rfl) ?_
  (try simp only [Act.put, List.setIfInBounds_toArray, List.set_cons_zero, List.set_cons_succ, List.getElem_toArray, List.getElem_cons_succ, List.getElem_cons_zero])
  refine held_take 2 _ _ rfl (by kernel_rfl) (by kernel_rfl) (by kernel_rfl) (fun _ _ _ h => h) (by rfl) hHeld (fun w hSw => by (try dsimp only at hSw); go_simp; try with_reducible rfl) ?_
  (try simp only [Act.put, List.setIfInBounds_toArray, List.set_cons_zero, List.set_cons_succ, List.getElem_toArray, List.getElem_cons_succ, List.getElem_cons_zero])
  refine held_take 3 _ _ rfl (by kernel_rfl) (by kernel_rfl) (by kernel_rfl) (fun _ _ _ h => h) (by rfl) hHeld (fun w hSw => by (try dsimp only at hSw); go_simp; try with_reducible rfl) ?_
  (try simp only [Act.put, List.setIfInBounds_toArray, List.set_cons_zero, List.set_cons_succ, List.getElem_toArray, List.getElem_cons_succ, List.getElem_cons_zero])
  refine wpAnyH_ready (rs := [4]) (by kernel_rfl) (by simp) ?_
  refine AllReadyH.cons rfl (fun K hK => ?_) AllReadyH.nil
  rw [if_pos (by rfl)]
  refine wp_store_arrD 26 (.tmp 2) (.tmp 17) W.heap.size [Value.slice none 0 0] [Value.slice a_a La.length c_a] (by rfl) (by rfl) (by rfl) A_r2' rfl sizeSg (by simp [Value.oneCell']) ?_
  intro wS hN2 hg7
  refine hK.out _ _ (⟨hg7.cell (hHeld).1 (fun e => by simp at e; omega), hg7.cell (hHeld).2 (fun e => by simp at e; omega)⟩) (fun hHeld1 => ?_)
  clear hK K
  (try simp only [Act.put, List.getElem_toArray, List.getElem_cons_succ, List.getElem_cons_zero])
  refine wpAnyH_ready (rs := [5]) (by kernel_rfl) (by simp) ?_
  refine AllReadyH.cons rfl (fun K hK => ?_) AllReadyH.nil
  rw [if_pos (by rfl)]
  refine wp_store_arrD 26 (.tmp 3) (.tmp 18) (W.heap.size + 1) [Value.slice none 0 0] [Value.slice a_b Lb.length c_b] (by rfl) (by rfl) (by rfl) (A_r3'.grownN hg7 (by omega)) rfl sizeSg (by simp [Value.oneCell']) ?_
  intro wT hN3 hg8
  refine hK.out _ _ (⟨hg8.cell (hHeld1).1 (fun e => by simp at e; omega), hg8.cell (hHeld1).2 (fun e => by simp at e; omega)⟩) (fun hHeld2 => ?_)
  clear hK K
  (try simp only [Act.put, List.getElem_toArray, List.getElem_cons_succ, List.getElem_cons_zero])
  refine held_take 6 _ _ rfl (by kernel_rfl) (by kernel_rfl) (by kernel_rfl) (fun _ _ _ h => h) (by rfl) hHeld2 (fun w hSw => by (try dsimp only at hSw); go_simp; try with_reducible rfl) ?_
  (try simp only [Act.put, List.setIfInBounds_toArray, List.set_cons_zero, List.set_cons_succ, List.getElem_toArray, List.getElem_cons_succ, List.getElem_cons_zero])
  refine held_take 7 _ _ rfl (by kernel_rfl) (by kernel_rfl) (by kernel_rfl) (fun _ _ _ h => h) (by rfl) hHeld2 (fun w hSw => by (try dsimp only at hSw); go_simp; try with_reducible rfl) ?_
  (try simp only [Act.put, List.setIfInBounds_toArray, List.set_cons_zero, List.set_cons_succ, List.getElem_toArray, List.getElem_cons_succ, List.getElem_cons_zero])
  refine wpAnyH_done (by kernel_rfl) ?_ _
  have hb8 := (hb'.grown hg7 hb'.size (fun k hk => by cases hk; exact Nat.le_refl _)).grown hg8 (by have := hb'.size; have := hg7.size; omega) (fun k hk => by cases hk; omega)
  have sa8 := (S_a'.grownN hg7 (fun p hp => by have := (F_a p hp).2; omega)).grownN hg8 (fun p hp => by have := (F_a p hp).2; omega)
  have sb8 := (S_b'.grownN hg7 (fun p hp => by have := (F_b p hp).2; omega)).grownN hg8 (fun p hp => by have := (F_b p hp).2; omega)
  have hN2' := hN2.grownN hg8 (by omega)
  clear hS0 hHeld2 hg7 hg8 hb' S_a' S_b'
  go_wp2_with fail
  exact bodyPost_ret (results_glu rfl _ _ W.heap.size (W.heap.size + 1) [Value.slice a_a La.length c_a] [Value.slice a_b Lb.length c_b] dS rfl rfl hN2' hN3 hdS hrS sizeSg sizeSg) rfl ⟨La, a_a, c_a, Lb, a_b, c_b, _, _, by omega, HIa.out, by omega, HIb.out, HX.out, HY.out, rfl, sa8, sb8, fun p hp => by have := (F_a p hp).2; omega, fun p hp => by have := (F_b p hp).2; omega, hb8⟩
def DLi (W : World) (e : Ending) (w' : World) : Prop :=
  ∃ (L : List Int) (av : Option Addr) (cv : Nat), L.length ≤ 13 ∧ (∀ x ∈ L, InI64 x) ∧ e = .returned (.slice av L.length cv) ∧ SlW w' av cv (L.map (Value.int .i64)) ∧ Below W.heap.size W w'

set_option maxRecDepth 100000 in
set_option maxHeartbeats 6400000 in
theorem l22List_any (W : World) (a : Option Addr) (len cap : Nat) (zs : List Int) (hr : IsRow .u8 W a len cap zs) (hl : len ≤ 1048576) :
    Calls Tryz.prog 44 #[.slice a len cap] W (DLi W) := by
  obtain ⟨i0, hi, hz0, hz1, hz2⟩ := info_parts infoIntL
  have cn := l1New_any W a len cap zs hr hl
  go_enter Tryz.func44, Tryz.ntmps44
  go_wp2_with fail
  refine cn.mono ?_
  rintro e w1 ⟨N, rfl, hd⟩
  have hNb := hd.base
  have hN1 := hd.lt
  clear cn hr
  go_wp2_with fail
  refine (l1Once_dr hd 2 (by decide)).mono ?_
  rintro e w2 ⟨q, rfl, hd2, hg2⟩
  have z2 := hg2.size
  clear hd hg2
  cases q
  · go_wp2_with fail
    refine (l1Once_dr hd2 3 (by decide)).mono ?_
    rintro e w3 ⟨q, rfl, hd3, hg3⟩
    have z3 := hg3.size
    clear hd2 hg3
    cases q
    · go_wp2_with fail
      refine (l3Draw_dr (hd3.alloc _)).mono ?_
      rintro e w4 ⟨L, v, hL, rfl, hown, hd4, hg4⟩
      obtain ⟨a4, c4, rfl, rX⟩ := row_open hown
      have hI := isSgB_iff.1 hL
      have hl12 := hI.len
      have HI : Hid (∀ x ∈ L, InI64 x) := Lib.hid fun x hx => by have := hI.bounds x hx; unfold InI64; omega
      obtain ⟨b, rfl⟩ := own_someD hown hI.ne
      have hO : (w3.alloc (.cells #[] 3)).ownsRow w3.heap.size 3 1 (.slice (some ⟨w3.heap.size, 0, none⟩) 0 0) 0 [] := World.ownsRow_lit w3 #[] 0 (Nat.le_refl _) (by simp) rfl
      have hO4 := hO.kept hg4 (.inr (by simp [Value.ownBlock]; omega))
      have hnw := newsOfD rX.slv
      have hlt4 := (hown.lt b rfl).2
      have hge4 := (hown.lt b rfl).1
      have hz4 : w3.heap.size + 1 ≤ w4.heap.size := by have := hg4.size; simpa using this
      have hb4 := hd4.bel
      have hfd : ∀ w : World, (Instr.field 26 (.agg #[.slice (some ⟨b, 0, none⟩) L.length c4]) 0).run Tryz.prog w = .ok (.slice (some ⟨b, 0, none⟩) L.length c4) w := fun _ => by kernel_rfl
      clear hL hI rX hown hd4 hg4 hO hd3
      go_wp2_with (at_builtin; refine wpList_append_own _ rfl (.tmp 35) (.tmp 38) 24 rfl w3.heap.size 3 i0 (Value.int .i64 0) 1 8 Tryz.underlying24 hi hz0 hz1 hz2 rfl (by decide) _ _ _ rfl hO4 ⟨b, 0, none⟩ L.length c4 (L.map (Value.int .i64)) rfl (by simp) hnw (ints_oneD L) (by unfold maxLen; omega) (by omega) (by omega) ?_; intro v5 w5 hO5 hg5 hv5; clear hv5; rw [Nat.zero_add, List.nil_append] at hO5)
      have hb5 := hb4.grown hg5 hb4.size (fun k hk => by cases hk; show W.heap.size ≤ w3.heap.size; omega)
      obtain ⟨a5, c5, rfl, rY⟩ := row_open hO5
      go_wp2_with fail
      go_ret
      exact ⟨L, a5, c5, by omega, HI.out, rfl, rY.slw, hb5⟩
    · go_wp2_with fail
      refine (l2Draw_dr hd3).mono ?_
      rintro e w4 ⟨L, v, hL5, hT, rfl, hown, hd4, hg4⟩
      obtain ⟨a4, c4, rfl, rX⟩ := row_open hown
      have HI : Hid (∀ x ∈ L, InI64 x) := Lib.hid fun x hx => by have := hT x hx; unfold Tiny at this; unfold InI64; omega
      have hb4 := hd4.bel
      clear hT hown hd4 hg4 hd3
      go_wp2_with fail
      go_ret
      exact ⟨L, a4, c4, by omega, HI.out, rfl, rX.slw, hb4⟩
  · go_wp2_with fail
    refine (l1Below_dr hd2 4 (by decide)).mono ?_
    rintro e w3 ⟨k0, ⟨h0, h1⟩, rfl, hd3, hg3⟩
    have z3 := hg3.size
    have hwk : IntKind.i64.wrap (2 + k0) = 2 + k0 := IntWalk.i64_in _ (by omega)
    clear hd2 hg3
    go_wp2_with fail
    refine (l1Below_dr hd3 4 (by decide)).mono ?_
    rintro e w4 ⟨n0, ⟨g0, g1⟩, rfl, hd4, hg4⟩
    obtain ⟨n, hn⟩ : ∃ n : Int, n = 2 + n0 := ⟨_, rfl⟩
    have hwn : IntKind.i64.wrap (2 + n0) = n := by rw [hn]; exact IntWalk.i64_in _ (by omega)
    have hk5 : 2 ≤ 2 + k0 ∧ 2 + k0 ≤ 5 := by omega
    have hn5 : 2 ≤ n ∧ n ≤ 5 := by omega
    clear hd3 hg4 h0 h1 g0 g1 hn
    generalize 2 + k0 = k at *
    have p1 := prodD hk5 hn5
    have p2 := prodD2 hk5 hn5
    have hw1 : IntKind.i64.wrap (k * n) = k * n := IntWalk.i64_in _ (by omega)
    have hw2 : IntKind.i64.wrap (n + 1) = n + 1 := IntWalk.i64_in _ (by omega)
    have hw3 : IntKind.i64.wrap (k * (n + 1)) = k * (n + 1) := IntWalk.i64_in _ (by omega)
    have hw4 : IntKind.i64.wrap (k + 1) = k + 1 := IntWalk.i64_in _ (by omega)
    go_wp2_with fail
    refine (l1Below_dr hd4 3 (by decide)).mono ?_
    rintro e w5 ⟨m0, ⟨h0, h1⟩, rfl, hd5, hg5⟩
    have hw5 : IntKind.i64.wrap (n + m0) = n + m0 := IntWalk.i64_in _ (by omega)
    have p3 := prodD3 hk5 hn5 h0 (show m0 ≤ 2 by omega)
    have hw6 : IntKind.i64.wrap ((k + 1) * (n + m0)) = (k + 1) * (n + m0) := IntWalk.i64_in _ (by omega)
    have hb5 := hd5.bel
    have hA := Arr.new w5 3 [.int .i64 (k * n), .int .i64 (k * (n + 1)), .int .i64 ((k + 1) * (n + m0))]
    have HF : Hid (SlW (w5.alloc (.cells #[.int .i64 (k * n), .int .i64 (k * (n + 1)), .int .i64 ((k + 1) * (n + m0))] 3)) (some ⟨w5.heap.size, 0, none⟩) 3 (([k * n, k * (n + 1), (k + 1) * (n + m0)] : List Int).map (Value.int .i64))) := Lib.hid (slwD (L := [k * n, k * (n + 1), (k + 1) * (n + m0)]) hA (show 3 ≤ 3 from Nat.le_refl 3))
    have HI : Hid (∀ x ∈ [k * n, k * (n + 1), (k + 1) * (n + m0)], InI64 x) := Lib.hid (by intro x hx; simp only [List.mem_cons, List.not_mem_nil, or_false] at hx; unfold InI64; rcases hx with rfl | rfl | rfl <;> omega)
    have hbF := hb5.alloc hb5.size (.cells #[.int .i64 (k * n), .int .i64 (k * (n + 1)), .int .i64 ((k + 1) * (n + m0))] 3)
    clear hd4 hd5 hg5 hA hb5
    go_wp2_with fail
    go_ret
    exact ⟨[k * n, k * (n + 1), (k + 1) * (n + m0)], _, 3, (by show 3 ≤ 13; omega), HI.out, rfl, HF.out, hbF⟩

set_option maxRecDepth 100000 in
set_option maxHeartbeats 6400000 in
theorem DrawIsTelescopic_any (W : World) (a : Option Addr) (len cap : Nat) (zs : List Int) (hr : IsRow .u8 W a len cap zs) (hl : len ≤ 1048576) :
    Calls Tryz.prog 10 #[.slice a len cap] W (DLi W) := by
  go_enter Tryz.func10, Tryz.ntmps10
  go_wp2_with fail
  refine (l22List_any W a len cap zs hr hl).mono ?_
  rintro e w1 ⟨L, a1, c1, hl13, hI, rfl, hs, hb⟩
  have HI := Lib.hid hI
  clear hI
  go_wp2_with fail
  go_ret
  exact ⟨L, a1, c1, hl13, HI.out, rfl, hs, hb⟩
end Go.Proofs.YtipfonpaaebjjaaGreat
