/-
  CONTRACTS of the program's sortOnce and SortList: slices.SortFunc and slices.Compact over a row of the call's own.
-/
import Derived.Test.YtjahmlaocgcjpaaGreatDoorL3
import Derived.Test.YtjahmlaocgcjpaaGreatDoorLaw
import Derived.Test.YtjahmlaocgcjpaaGreatDoorSortM
import Derived.Test.YtjahmlaocgcjpaaGreatDoorShSort
import Derived.Lib.OwnBridge
import Derived.Laws.AppendOwnNone
namespace Go.Proofs.YtjahmlaocgcjpaaGreatDoor
open Go Go.RowKit Go.Sort

theorem cmpReadsC (blk off size : Nat) (w : World) : CmpReads Tryz.prog 58 #[] (Value.int .i64) Lib.compareInt blk off size w :=
  fun _ _ _ _ x y => (Tryz.cmp_Compare_int x y _).mono fun _ _ ⟨he, hw⟩ => ⟨he, 0, hw⟩

theorem owns_grow {w : World} {base : Nat} {e : TypeId} {v : Value} {n : Nat} {xs : List Value} (os : Array Obj) (h : w.ownsRow base e 1 v n xs) : (grow w os).ownsRow base e 1 v n xs :=
  row_kept h fun j hj => heap_grow_old w os (h.lt j hj).2
theorem below_growB {B : Nat} {a w : World} (os : Array Obj) (h : Below B a w) (hB : B ≤ w.heap.size) : Below B a (grow w os) :=
  h.trans ⟨rfl, rfl, rfl, by simp, fun k hk => heap_grow_old w os (by omega)⟩

set_option maxRecDepth 100000 in
set_option maxHeartbeats 1000000 in
theorem impl_sortOnce (base : Nat) (L : List Int) (v : Value) (w : World) (ho : w.ownsRow base 3 1 v L.length (L.map (Value.int .i64))) (hl : L.length ≤ 4611686018427387903) (hbase : base ≤ w.heap.size) :
    Calls Tryz.prog 40 #[v] w fun e w' => ∃ u, e = .returned u ∧ w'.ownsRow base 3 1 u (sortL L).length ((sortL L).map (Value.int .i64)) ∧ Below base w w' := by
  have eg : ∀ args w, (callFunc 58 args).run Tryz.prog w = .ok (.enter 58 args) w := enters_of Tryz.func58 (by kernel_rfl) rfl
  by_cases hv : v = .slice none 0 0
  · subst hv
    have hL : L = [] := by
      have h1 := ho.1
      rcases ho.2 with ⟨-, h2⟩ | ⟨g, cap, cur, e, -⟩
      · exact List.eq_nil_of_length_eq_zero h2
      · cases e
    subst hL
    have c1 := fun W => Tryz.slices_SortFunc_none (α := Int) none 0 (.func (.func 58) #[] #[]) W
    have c2 := fun W => Tryz.slices_Compact_int_empty none 0 W
    clear ho hl
    go_enter Tryz.func40, Tryz.ntmps40
    go_wp2_with fail
    refine (c1 _).mono ?_
    rintro e w1 ⟨rfl, rfl⟩
    go_wp2_with fail
    refine (c2 _).mono ?_
    rintro e w2 ⟨rfl, rfl⟩
    go_wp2_with fail
    go_ret
    exact ⟨_, rfl, World.ownsRow_nil _ _ _ _, Below.refl _ _⟩
  · obtain ⟨g, cap, rfl, hg, hlt, hnc, hcm, -, hH⟩ := Lib.holds_of_ownsRow ho hv
    have hS := Tryz.slices_SortFunc_total (Value.int .i64) (fun _ => rfl) Lib.compareInt swoC 58 #[] g 0 cap L.toArray w eg (cmpReadsC g 0 L.toArray.size w).lays hH hlt (by simp; omega) totC
    rw [leC, List.size_toArray] at hS
    have hperm := List.mergeSort_perm L (fun x y => decide (x ≤ y))
    have hML : (L.mergeSort fun x y => decide (x ≤ y)).length = L.length := hperm.length_eq
    have HC := Lib.hid (compact_sorted L)
    have HO := Lib.hid ho
    generalize (L.mergeSort fun x y => decide (x ≤ y)) = S at *
    clear ho hv hperm hH
    go_enter Tryz.func40, Tryz.ntmps40
    go_wp2_with fail
    refine hS.mono ?_
    rintro e w1 ⟨rfl, n, os, hw1⟩
    have ho1 : w1.ownsRow base 3 1 (.slice (some ⟨g, 0, none⟩) L.length cap) L.length (S.map (Value.int .i64)) := by
      rw [hw1]
      have := Lib.ownsRow_putRow (q := n) (k := L.length) HO.out hML (Nat.le_refl _)
      rw [List.take_of_length_le (by omega)] at this
      exact owns_grow os this
    have hb1 : Below base w w1 := by
      rw [hw1]
      exact below_growB os (Lib.below_putRow (Below.refl _ _) hg) (by simp; omega)
    have HO1 := Lib.hid ho1
    obtain ⟨g', cap', e', -, hlt1, -, -, -, hH1⟩ := Lib.holds_of_ownsRow ho1 (by intro h; cases h)
    cases e'
    have c2 := Tryz.slices_Compact_int g 0 cap S w1 hH1 (by omega) (by omega)
    rw [hML, HC.out] at c2
    have hlen := sortL_length_le L
    clear hS hw1 ho1 hH1
    go_wp2_with fail
    refine c2.mono ?_
    rintro e w2 ⟨rfl, q, hw2⟩
    have ho2 : w2.ownsRow base 3 1 (.slice (some ⟨g, 0, none⟩) (sortL L).length cap) (sortL L).length ((sortL L).map (Value.int .i64)) := by
      rw [hw2]
      have := Lib.ownsRow_putRow (q := q) (k := (sortL L).length) (ys := sortL L ++ List.replicate (L.length - (sortL L).length) 0) HO1.out (by simp; omega) hlen
      rw [List.take_left] at this
      exact this
    have hb2 : Below base w w2 := by
      rw [hw2]
      exact Lib.below_putRow hb1 hg
    clear hw2 c2 HO1
    have HO2 := Lib.hid ho2
    clear ho2
    go_wp2_with fail
    go_ret
    exact ⟨_, rfl, HO2.out, hb2⟩

set_option maxRecDepth 100000 in
set_option maxHeartbeats 1000000 in
theorem impl_SortList (L : List Int) (a : Option Addr) (c : Nat) (w : World) (hr : SlW w a c (L.map (Value.int .i64))) (hb : L.length ≤ 1048576) :
    Calls Tryz.prog 12 #[.slice a L.length c] w (SlPost (sortL L) w) := by
  obtain ⟨i0, hi, hz0, hz1, hz2⟩ := info_parts infoIntL
  obtain ⟨hs, hn0, hle, hmx⟩ := hr
  have hnil : w.ownsRow w.heap.size 3 1 (.slice none 0 0) 0 [] := World.ownsRow_nil _ _ _ _
  cases a with
  | none =>
    obtain rfl : c = 0 := hn0 rfl
    obtain rfl : L = [] := List.eq_nil_of_length_eq_zero (by simpa using hle)
    have cs := impl_sortOnce w.heap.size [] (.slice none 0 0) w hnil (by simp) (Nat.le_refl _)
    clear hs hn0 hle hmx hb
    go_enter Tryz.func12, Tryz.ntmps12
    go_wp2_with (at_builtin; refine wpList_append_own_none rfl _ _ 27 rfl w.heap.size 3 i0 1 Tryz.underlying27 hi _ _ _ rfl hnil rfl ?_)
    go_wp2_with fail
    refine cs.mono ?_
    rintro e w' ⟨u, rfl, ho, hb⟩
    have HO := Lib.hid ho
    clear ho cs
    go_wp2_with fail
    go_ret
    exact ⟨u, rfl, HO.out, hb⟩
  | some ad =>
    have hcells : ∀ (j : Nat) (u : Value), (L.map (Value.int .i64))[j]? = some u → w.cell? (ad.add j) = some u := by
      intro j u hj
      rcases hs with h | ⟨b, off, e, hlt, hc⟩
      · rw [h] at hj; simp at hj
      · cases e
        have hadd : (⟨b, off, none⟩ : Addr).add j = ⟨b, off + j, none⟩ := by unfold Addr.add; split <;> simp_all
        rw [hadd]; exact hc j u hj
    have h1 : ∀ u ∈ L.map (Value.int .i64), u.oneCell' = true := by
      intro u hu
      obtain ⟨x, -, rfl⟩ := List.mem_map.1 hu
      rfl
    clear hs hn0
    have hl1 : (L.map (Value.int .i64)).length = L.length * 1 := by simp
    go_enter Tryz.func12, Tryz.ntmps12
    go_wp2_with (at_builtin; refine wpList_append_own _ rfl _ _ 27 rfl w.heap.size 3 i0 (Value.int .i64 0) 1 8 Tryz.underlying27 hi hz0 hz1 hz2 rfl (by decide) (.slice none 0 0) 0 [] rfl hnil ad L.length c (L.map (Value.int .i64)) rfl hl1 hcells h1 (by unfold maxLen; omega) (by omega) (Nat.le_refl _) ?_; intro v1 w1 ho1 hg1 _)
    rw [Nat.zero_add, List.nil_append] at ho1
    have hb1 : Below w.heap.size w w1 := (Below.refl _ _).grown hg1 (Nat.le_refl _) (fun k hk => by simp [Value.ownBlock] at hk)
    have cs := impl_sortOnce w.heap.size L v1 w1 ho1 (by omega) hb1.size
    clear ho1 hg1 hcells h1 hnil
    go_wp2_with fail
    refine cs.mono ?_
    rintro e w' ⟨u, rfl, ho, hb2⟩
    have HO := Lib.hid ho
    have hb3 := hb1.trans hb2
    clear ho cs
    go_wp2_with fail
    go_ret
    exact ⟨u, rfl, HO.out, hb3⟩
end Go.Proofs.YtjahmlaocgcjpaaGreatDoor
