/-
  CONTRACTS of the program's chapter 10: IsBelow, the sort by a function value, slices.IndexFunc and ContainsFunc at its closure, extremesOf, MaximalOf, MinimalIn. (Own work.)
-/
import Derived.Test.YtopnehkhigacpaaGreatSgO
import Derived.Test.YtopnehkhigacpaaGreatCh3I
import Derived.Test.YtopnehkhigacpaaGreatL36
import Derived.Test.YtopnehkhigacpaaGreatHta
namespace Go.Proofs.YtopnehkhigacpaaGreat
open Go Go.RowKit Go.Lib Go.Sort
attribute [local go_sem] Oper.semAt_some

/-! ### Numbers within the limit, sorted by how far one stands behind another -/
abbrev Sm := { x : Int // -1000000 ≤ x ∧ x ≤ 1000000 }
instance smInh : Inhabited Sm := ⟨⟨0, by omega, by omega⟩⟩
def encS (x : Sm) : Value := .int .i64 x.1
def cfS (dn : Bool) (x y : Sm) : Int := behN dn x.1 y.1
theorem swoS (dn : Bool) : SWO (ltOf (cfS dn)) where
  irrefl x := by unfold ltOf cfS; rw [behN_self]; rfl
  trans x y z h1 h2 := by
    unfold ltOf cfS at *
    rw [decide_eq_true_eq] at *
    rw [behN_add dn x.1 y.1 z.1]; omega
  ntrans x y z h1 h2 := by
    unfold ltOf cfS at *
    rw [decide_eq_false_iff_not] at *
    rw [behN_add dn x.1 y.1 z.1]; omega
theorem totS (dn : Bool) (x y : Sm) (h1 : ltOf (cfS dn) x y = false) (h2 : ltOf (cfS dn) y x = false) : x = y := by
  unfold ltOf cfS at *
  rw [decide_eq_false_iff_not] at *
  have := behN_neg dn x.1 y.1
  exact Subtype.ext (behN_zero (dn := dn) (by omega))
theorem smOf : ∀ (L : List Int), L.all small = true → ∃ D : List Sm, D.map (fun x => x.1) = L
  | [], _ => ⟨[], rfl⟩
  | x :: L, h => by
    rw [List.all_cons, Bool.and_eq_true] at h
    obtain ⟨D, hD⟩ := smOf L h.2
    exact ⟨⟨x, small_iff.1 h.1⟩ :: D, by rw [List.map_cons, hD]⟩
theorem sorted_sm (dn : Bool) (D : List Sm) : ∃ N : List Sm, (D.mergeSort fun x y => !(ltOf (cfS dn)) y x) = N ∧ N.length = D.length ∧ (∀ x, x ∈ N ↔ x ∈ D) ∧ N.Pairwise fun p q => 0 ≤ behN dn q.1 p.1 := by
  refine ⟨_, rfl, List.length_mergeSort _, fun x => List.mem_mergeSort, ?_⟩
  have h := List.pairwise_mergeSort (le := fun x y : Sm => !(ltOf (cfS dn)) y x) (fun a b c h1 h2 => by
    have hs := (swoS dn).ntrans c b a (by simpa using h2) (by simpa using h1)
    simpa using hs) (fun a b => by
    cases h : ltOf (cfS dn) b a
    · rfl
    · have : ltOf (cfS dn) a b = false := by
        unfold ltOf cfS at *
        rw [decide_eq_true_eq] at h
        rw [decide_eq_false_iff_not]
        have := behN_neg dn b.1 a.1; omega
      rw [this]; rfl) D
  refine h.imp fun {p q} hpq => ?_
  have : ltOf (cfS dn) q p = false := by simpa using hpq
  unfold ltOf cfS at this
  rw [decide_eq_false_iff_not] at this
  omega

theorem keepC10 {W wr w1 : World} {g b1 b2 : Nat} {t : TypeId} {cs : List Value} {v1 v2 : Value} (h1 : b1 < W.heap.size) (h2 : b2 < W.heap.size)
    (h : Arr wr g t cs ∧ wr.cell? ⟨b1, 0, none⟩ = some v1 ∧ wr.cell? ⟨b2, 0, none⟩ = some v2 ∧ Below W.heap.size W wr) (hb : Below wr.heap.size wr w1) : Arr w1 g t cs ∧ w1.cell? ⟨b1, 0, none⟩ = some v1 ∧ w1.cell? ⟨b2, 0, none⟩ = some v2 ∧ Below W.heap.size W w1 := by
  obtain ⟨e0, e1, e2, hB⟩ := h
  have hs := hB.size
  exact ⟨e0.below hb, (hb.cell (p := ⟨b1, 0, none⟩) (Nat.lt_of_lt_of_le h1 hs)).trans e1, (hb.cell (p := ⟨b2, 0, none⟩) (Nat.lt_of_lt_of_le h2 hs)).trans e2, hB.trans (hb.mono hs)⟩

theorem clone_any (L : List Int) (a : Option Addr) (c : Nat) (w : World) (hr : SlV w a (L.map (Value.int .i64))) (hb : L.length ≤ 1048576) :
    Calls Tryz.prog 96 #[.slice a L.length c] w fun e w' => ∃ v, e = .returned v ∧ w'.ownsRow w.heap.size 3 1 v L.length (L.map (Value.int .i64)) ∧ Below w.heap.size w w' := by
  by_cases hn : L = []
  · subst hn
    cases a with
    | none =>
      refine (Tryz.slices_Clone_int_nil 0 c w).mono ?_
      rintro e w' ⟨rfl, rfl⟩
      exact ⟨_, rfl, World.ownsRow_nil _ _ _ _, Below.refl _ _⟩
    | some ad =>
      refine (Tryz.slices_Clone_int_zero ad c w).mono ?_
      rintro e w' ⟨v, rfl, ho, -, hb⟩
      exact ⟨v, rfl, ho, hb⟩
  · obtain ⟨b, off, rfl, hbs, hc⟩ := hr.open (by intro h; rw [List.map_eq_nil_iff] at h; exact hn h)
    refine (Tryz.slices_Clone_int b off L.length c L w (Nat.le_refl _) (by omega) (fun j hj => ?_)).mono ?_
    · rw [List.getD_eq_getElem?_getD, List.getElem?_eq_getElem hj]
      exact hc j _ (by simp [hj])
    · rintro e w' ⟨v, rfl, ho, -, hb⟩
      rw [List.take_length] at ho
      exact ⟨v, rfl, ho, hb⟩

set_option maxRecDepth 100000 in
set_option maxHeartbeats 400000 in
theorem impl_MaximalOf_beh (x y : Int) (w : World) (hx : -1000000 ≤ x ∧ x ≤ 1000000) (hy : -1000000 ≤ y ∧ y ≤ 1000000) :
    Calls Tryz.prog 99 #[.int .i64 x, .int .i64 y] w fun e w' => e = .returned (.int .i64 (behN false x y)) ∧ w' = w := by
  obtain ⟨hx0, hx1⟩ := hx
  obtain ⟨hy0, hy1⟩ := hy
  have hw1 : IntKind.i64.wrap (y - x) = y - x := IntWalk.i64_in _ (by omega)
  rw [show behN false x y = y - x from rfl]
  go_enter Tryz.func99, Tryz.ntmps99
  go_wp2_with fail
  go_ret
  exact ⟨rfl, rfl⟩

theorem sort_MaximalOf (base : Nat) (L : List Int) (v : Value) (w : World) (ho : w.ownsRow base 3 1 v L.length (L.map (Value.int .i64))) (hl : L.length ≤ 1048576) (hbase : base ≤ w.heap.size) (hs : L.all small = true) :
    Calls Tryz.prog 75 #[v, .func (.func 99) #[] #[]] w fun e w' => e = .returned (.tuple #[]) ∧ ∃ N : List Int, w'.ownsRow base 3 1 v L.length (N.map (Value.int .i64)) ∧ N.length = L.length ∧ (∀ x, x ∈ N ↔ x ∈ L) ∧ (N.Pairwise fun p q => 0 ≤ behN false q p) ∧ Below base w w' := by
  have eg : ∀ args w, (callFunc 99 args).run Tryz.prog w = .ok (.enter 99 args) w := enters_of Tryz.func99 (by kernel_rfl) rfl
  by_cases hv : v = .slice none 0 0
  · subst hv
    have hL : L = [] := by
      have h1 := ho.1
      rcases ho.2 with ⟨-, h2⟩ | ⟨g, cap, cur, e, -⟩
      · exact List.eq_nil_of_length_eq_zero h2
      · cases e
    subst hL
    refine (Tryz.slices_SortFunc_none (α := Int) none 0 (.func (.func 99) #[] #[]) w).mono ?_
    rintro e w1 ⟨rfl, rfl⟩
    exact ⟨rfl, [], ho, rfl, fun _ => Iff.rfl, List.Pairwise.nil, Below.refl _ _⟩
  · obtain ⟨D, rfl⟩ := smOf L hs
    rw [List.map_map, show (Value.int IntKind.i64 ∘ fun x : Sm => x.1) = encS from rfl] at ho
    obtain ⟨g, cap, rfl, hg, hlt, hnc, hcm, -, hH⟩ := Lib.holds_of_ownsRow ho hv
    have hcmp : CmpReads Tryz.prog 99 #[] encS (cfS false) g 0 D.toArray.size w := fun _ _ _ _ x y => (impl_MaximalOf_beh x.1 y.1 _ x.2 y.2).mono fun _ _ ⟨he, hw⟩ => ⟨he, 0, hw⟩
    have hS := Tryz.slices_SortFunc_total encS (fun _ => rfl) (cfS false) (swoS false) 99 #[] g 0 cap D.toArray w eg hcmp.lays hH hlt (by rw [List.length_map] at hl; simp; omega) (totS false)
    obtain ⟨N, hN, h1, h2, h3⟩ := sorted_sm false D
    have hsz : D.toArray.size = (D.map fun x : Sm => x.1).length := by simp
    rw [show D.toArray.toList = D from rfl, hN, hsz] at hS
    refine hS.mono ?_
    rintro e w1 ⟨rfl, n, os, hw1⟩
    refine ⟨rfl, N.map (fun x => x.1), ?_, by simp [h1], fun x => ?_, ?_, ?_⟩
    · rw [List.map_map, show (Value.int IntKind.i64 ∘ fun x : Sm => x.1) = encS from rfl, hw1]
      have := Lib.ownsRow_putRow (q := n) (k := (D.map fun x : Sm => x.1).length) (ys := N) ho (by rw [h1, List.length_map]) (Nat.le_refl _)
      rw [List.take_of_length_le (by rw [h1, List.length_map]; exact Nat.le_refl _)] at this
      exact owns_grow os this
    · rw [List.mem_map, List.mem_map]
      exact exists_congr fun y => by rw [h2]
    · rw [List.pairwise_map]; exact h3
    · rw [hw1]
      exact below_growB os (Lib.below_putRow (Below.refl _ _) hg) (by simp; omega)

set_option maxRecDepth 100000 in
set_option maxHeartbeats 400000 in
theorem impl_MinimalIn_beh (x y : Int) (w : World) (hx : -1000000 ≤ x ∧ x ≤ 1000000) (hy : -1000000 ≤ y ∧ y ≤ 1000000) :
    Calls Tryz.prog 67 #[.int .i64 x, .int .i64 y] w fun e w' => e = .returned (.int .i64 (behN true x y)) ∧ w' = w := by
  obtain ⟨hx0, hx1⟩ := hx
  obtain ⟨hy0, hy1⟩ := hy
  have hw1 : IntKind.i64.wrap (x - y) = x - y := IntWalk.i64_in _ (by omega)
  rw [show behN true x y = x - y from rfl]
  go_enter Tryz.func67, Tryz.ntmps67
  go_wp2_with fail
  go_ret
  exact ⟨rfl, rfl⟩

theorem sort_MinimalIn (base : Nat) (L : List Int) (v : Value) (w : World) (ho : w.ownsRow base 3 1 v L.length (L.map (Value.int .i64))) (hl : L.length ≤ 1048576) (hbase : base ≤ w.heap.size) (hs : L.all small = true) :
    Calls Tryz.prog 75 #[v, .func (.func 67) #[] #[]] w fun e w' => e = .returned (.tuple #[]) ∧ ∃ N : List Int, w'.ownsRow base 3 1 v L.length (N.map (Value.int .i64)) ∧ N.length = L.length ∧ (∀ x, x ∈ N ↔ x ∈ L) ∧ (N.Pairwise fun p q => 0 ≤ behN true q p) ∧ Below base w w' := by
  have eg : ∀ args w, (callFunc 67 args).run Tryz.prog w = .ok (.enter 67 args) w := enters_of Tryz.func67 (by kernel_rfl) rfl
  by_cases hv : v = .slice none 0 0
  · subst hv
    have hL : L = [] := by
      have h1 := ho.1
      rcases ho.2 with ⟨-, h2⟩ | ⟨g, cap, cur, e, -⟩
      · exact List.eq_nil_of_length_eq_zero h2
      · cases e
    subst hL
    refine (Tryz.slices_SortFunc_none (α := Int) none 0 (.func (.func 67) #[] #[]) w).mono ?_
    rintro e w1 ⟨rfl, rfl⟩
    exact ⟨rfl, [], ho, rfl, fun _ => Iff.rfl, List.Pairwise.nil, Below.refl _ _⟩
  · obtain ⟨D, rfl⟩ := smOf L hs
    rw [List.map_map, show (Value.int IntKind.i64 ∘ fun x : Sm => x.1) = encS from rfl] at ho
    obtain ⟨g, cap, rfl, hg, hlt, hnc, hcm, -, hH⟩ := Lib.holds_of_ownsRow ho hv
    have hcmp : CmpReads Tryz.prog 67 #[] encS (cfS true) g 0 D.toArray.size w := fun _ _ _ _ x y => (impl_MinimalIn_beh x.1 y.1 _ x.2 y.2).mono fun _ _ ⟨he, hw⟩ => ⟨he, 0, hw⟩
    have hS := Tryz.slices_SortFunc_total encS (fun _ => rfl) (cfS true) (swoS true) 67 #[] g 0 cap D.toArray w eg hcmp.lays hH hlt (by rw [List.length_map] at hl; simp; omega) (totS true)
    obtain ⟨N, hN, h1, h2, h3⟩ := sorted_sm true D
    have hsz : D.toArray.size = (D.map fun x : Sm => x.1).length := by simp
    rw [show D.toArray.toList = D from rfl, hN, hsz] at hS
    refine hS.mono ?_
    rintro e w1 ⟨rfl, n, os, hw1⟩
    refine ⟨rfl, N.map (fun x => x.1), ?_, by simp [h1], fun x => ?_, ?_, ?_⟩
    · rw [List.map_map, show (Value.int IntKind.i64 ∘ fun x : Sm => x.1) = encS from rfl, hw1]
      have := Lib.ownsRow_putRow (q := n) (k := (D.map fun x : Sm => x.1).length) (ys := N) ho (by rw [h1, List.length_map]) (Nat.le_refl _)
      rw [List.take_of_length_le (by rw [h1, List.length_map]; exact Nat.le_refl _)] at this
      exact owns_grow os this
    · rw [List.mem_map, List.mem_map]
      exact exists_congr fun y => by rw [h2]
    · rw [List.pairwise_map]; exact h3
    · rw [hw1]
      exact below_growB os (Lib.below_putRow (Below.refl _ _) hg) (by simp; omega)

/-! ### slices.IndexFunc and slices.ContainsFunc at a closure over three variables -/
set_option maxRecDepth 100000 in
set_option maxHeartbeats 800000 in
theorem index_any (φ : Int → Bool) (K : List Int) (a : Option Addr) (c p1 p2 p3 : Nat) (w : World) (hr : SlV w a (K.map (Value.int .i64))) (hb : K.length ≤ 1048576)
    (hf : ∀ x ∈ K, ∀ W, Below w.heap.size w W → Calls Tryz.prog 97 #[.int .i64 x, .pointer (some ⟨p1, 0, none⟩), .pointer (some ⟨p2, 0, none⟩), .pointer (some ⟨p3, 0, none⟩)] W fun e w' => e = .returned (.bool (φ x)) ∧ Below W.heap.size W w') :
    Calls Tryz.prog 94 #[.slice a K.length c, .func (.func 97) #[] #[.pointer (some ⟨p1, 0, none⟩), .pointer (some ⟨p2, 0, none⟩), .pointer (some ⟨p3, 0, none⟩)]] w fun e w' => ∃ r : Int, e = .returned (.int .i64 r) ∧ -1 ≤ r ∧ r ≤ 1048576 ∧ decide (0 ≤ r) = K.any φ ∧ Below w.heap.size w w' := by
  have HF := Lib.hid hf
  clear hf
  go_enter Tryz.func94, Tryz.ntmps94
  go_wp2_with fail
  go_loopw [8] (fun i wr => ∃ k : Nat, k ≤ K.length ∧ i = .int .i64 (k : Int) ∧ Hid ((K.take k).any φ = false) ∧ Below w.heap.size w wr) (fun i _ => K.length - (intOf i).toNat)
  case atStart => exact ⟨0, Nat.zero_le _, rfl, Lib.hid (by simp), Below.refl _ _⟩
  case round =>
    obtain ⟨k, hk, rfl, HA, hbel⟩ := hrel
    by_cases hlt : k < K.length
    · have hlti : (k : Int) < (K.length : Int) := by omega
      obtain ⟨b, off, rfl, hbs, hc⟩ := (hr.below hbel).open (by intro h; rw [List.map_eq_nil_iff] at h; subst h; simp at hlt)
      have hcell : wr.cell? ⟨b, off + k, none⟩ = some (.int .i64 K[k]) := hc k _ (by simp [hlt])
      have cf := HF.out K[k] (List.getElem_mem hlt) wr hbel
      have HT : Hid ((K.take (k + 1)).any φ = φ K[k]) := Lib.hid (by rw [List.take_add_one, List.getElem?_eq_getElem hlt, Option.toList_some, List.any_append, HA.out]; simp)
      have HY : Hid (φ K[k] = true → K.any φ = true) := Lib.hid fun h => List.any_eq_true.2 ⟨K[k], List.getElem_mem hlt, h⟩
      have hk0 : (0 : Int) ≤ (k : Int) := by omega
      clear hc
      generalize K[k] = x at *
      generalize φ x = q at *
      go_wp2_with fail
      refine cf.mono ?_
      rintro e w1 ⟨rfl, hb1⟩
      have hbel1 := hbel.trans (hb1.mono hbel.size)
      clear cf hcell hb1
      cases q
      · clear HY
        go_wp2_with fail
        go_roundw
        case rel => exact ⟨k + 1, by omega, by go_num, HT, hbel1⟩
        case measure => simp [intOf]; omega
      · have HR := Lib.hid (HY.out rfl)
        clear HY HT
        go_wp2_with fail
        go_ret
        exact ⟨(k : Int), rfl, by omega, by omega, by rw [HR.out]; exact decide_eq_true hk0, hbel1⟩
    · have hke : k = K.length := by omega
      rw [hke, List.take_of_length_le (Nat.le_refl _)] at HA
      clear hke
      go_wp2_with fail
      go_ret
      exact ⟨-1, rfl, by omega, by omega, by rw [HA.out]; rfl, hbel⟩

set_option maxRecDepth 100000 in
set_option maxHeartbeats 400000 in
theorem contains_any (φ : Int → Bool) (K : List Int) (a : Option Addr) (c p1 p2 p3 : Nat) (w : World) (hr : SlV w a (K.map (Value.int .i64))) (hb : K.length ≤ 1048576)
    (hf : ∀ x ∈ K, ∀ W, Below w.heap.size w W → Calls Tryz.prog 97 #[.int .i64 x, .pointer (some ⟨p1, 0, none⟩), .pointer (some ⟨p2, 0, none⟩), .pointer (some ⟨p3, 0, none⟩)] W fun e w' => e = .returned (.bool (φ x)) ∧ Below W.heap.size W w') :
    Calls Tryz.prog 61 #[.slice a K.length c, .func (.func 97) #[] #[.pointer (some ⟨p1, 0, none⟩), .pointer (some ⟨p2, 0, none⟩), .pointer (some ⟨p3, 0, none⟩)]] w fun e w' => e = .returned (.bool (K.any φ)) ∧ Below w.heap.size w w' := by
  have c1 := index_any φ K a c p1 p2 p3 w hr hb hf
  clear hr hf
  generalize K.any φ = q at *
  go_enter Tryz.func61, Tryz.ntmps61
  go_wp2_with fail
  refine c1.mono ?_
  rintro e w1 ⟨r, rfl, h1, h2, hq, hb1⟩
  by_cases h0 : 0 ≤ r
  · rw [decide_eq_true h0] at hq
    have hd := decide_eq_true h0
    subst hq
    go_wp2_with fail
    go_ret
    exact ⟨rfl, hb1⟩
  · rw [decide_eq_false h0] at hq
    have hd := decide_eq_false h0
    subst hq
    go_wp2_with fail
    go_ret
    exact ⟨rfl, hb1⟩

set_option maxRecDepth 100000 in
set_option maxHeartbeats 800000 in
theorem impl_behind_MaximalOf (G : List Int) (n k : Int) (p1 p2 p3 : Nat) (w : World) (hs : isSgB G = true) (hn : -1000000 ≤ n ∧ n ≤ 1000000) (hk : -1000000 ≤ k ∧ k ≤ 1000000) (h2 : p2 < w.heap.size) (h3 : p3 < w.heap.size)
    (hA : Arr w p1 49 (tabB (elF G) 260)) (hk2 : w.cell? ⟨p2, 0, none⟩ = some (.func (.func 99) #[] #[])) (hk3 : w.cell? ⟨p3, 0, none⟩ = some (.int .i64 n)) :
    Calls Tryz.prog 97 #[.int .i64 k, .pointer (some ⟨p1, 0, none⟩), .pointer (some ⟨p2, 0, none⟩), .pointer (some ⟨p3, 0, none⟩)] w fun e w' => e = .returned (.bool (hasN G (behN false n k))) ∧ Below w.heap.size w w' := by
  have hS0 : Arr w.drew p1 49 (tabB (elF G) 260) ∧ w.drew.cell? ⟨p2, 0, none⟩ = some (.func (.func 99) #[] #[]) ∧ w.drew.cell? ⟨p3, 0, none⟩ = some (.int .i64 n) ∧ Below w.heap.size w w.drew := ⟨hA, hk2, hk3, (Below.refl _ _).drew⟩
  have cB := fun w' => impl_MaximalOf_beh n k w' hn hk
  have cH : ∀ w', Calls Tryz.prog 63 #[.agg (tabB (elF G) 260).toArray, .int .i64 (behN false n k)] w' fun e w2 => e = .returned (.bool (hasN G (behN false n k))) ∧ Below w'.heap.size w' w2 := fun w' => impl_has (elF G) (behN false n k) _ w' (hasN_way G _ hs)
  generalize behN false n k = d at *
  generalize hasN G d = q at *
  clear hs hn hk
  go_enter Tryz.func97, Tryz.ntmps97
  go_wp2_with fail
  refine wp_region_held_drew (S := fun w' => Arr w' p1 49 (tabB (elF G) 260) ∧ w'.cell? ⟨p2, 0, none⟩ = some (.func (.func 99) #[] #[]) ∧ w'.cell? ⟨p3, 0, none⟩ = some (.int .i64 n) ∧ Below w.heap.size w w') (by kernel_rfl) hS0 (fun hHeld => ?_)
  refine held_take_arr 0 _ 49 (.tmp 1) p1 (tabB (elF G) 260) (.array 260 4) undT rfl (sizeTl _) (fun _ h => h.1) rfl (by kernel_rfl) (by kernel_rfl) (by kernel_rfl) (fun _ _ _ h => h) (by rfl) rfl rfl hHeld ?_
  (try simp only [Act.put, List.setIfInBounds_toArray, List.set_cons_zero, List.set_cons_succ, List.getElem_toArray, List.getElem_cons_zero])
  refine held_take 1 _ _ rfl (by kernel_rfl) (by kernel_rfl) (by kernel_rfl) (fun _ _ _ h => h) (by rfl) hHeld (fun w hSw => by (try dsimp only at hSw); go_simp; try with_reducible rfl) ?_
  (try simp only [Act.put, List.setIfInBounds_toArray, List.set_cons_zero, List.set_cons_succ, List.getElem_toArray, List.getElem_cons_succ, List.getElem_cons_zero])
  refine held_take 2 _ _ rfl (by kernel_rfl) (by kernel_rfl) (by kernel_rfl) (fun _ _ _ h => h) (by rfl) hHeld (fun w hSw => by (try dsimp only at hSw); go_simp; try with_reducible rfl) ?_
  (try simp only [Act.put, List.setIfInBounds_toArray, List.set_cons_zero, List.set_cons_succ, List.getElem_toArray, List.getElem_cons_succ, List.getElem_cons_zero])
  refine held_take 3 _ _ rfl (by kernel_rfl) (by kernel_rfl) (by kernel_rfl) (fun _ _ _ h => h) (by rfl) hHeld (fun w hSw => by (try dsimp only at hSw); go_simp; try with_reducible rfl) ?_
  (try simp only [Act.put, List.setIfInBounds_toArray, List.set_cons_zero, List.set_cons_succ, List.getElem_toArray, List.getElem_cons_succ, List.getElem_cons_zero])
  refine wpAnyH_ready (rs := [4]) (by kernel_rfl) (by simp) ?_
  refine AllReadyH.cons rfl (fun K hK => ?_) AllReadyH.nil
  rw [if_pos (by rfl)]
  go_wp2_with (first | ((with_reducible refine (cB _).mono ?_); rintro e wk ⟨rfl, hww⟩; have hbk := below_eq hww; clear hww))
  refine hK.out _ _ (keepC10 h2 h3 hHeld hbk) (fun hHeld1 => ?_)
  clear hK K
  (try simp only [Act.put, List.setIfInBounds_toArray, List.set_cons_zero, List.set_cons_succ, List.getElem_toArray, List.getElem_cons_succ, List.getElem_cons_zero])
  refine wpAnyH_ready (rs := [5]) (by kernel_rfl) (by simp) ?_
  refine AllReadyH.cons rfl (fun K hK => ?_) AllReadyH.nil
  rw [if_pos (by rfl)]
  go_wp2_with (first | (go_at_call 63; (with_reducible refine (cH _).mono ?_); rintro e wk ⟨rfl, hbk⟩))
  refine hK.out _ _ (keepC10 h2 h3 hHeld1 hbk) (fun hHeld2 => ?_)
  clear hK K
  (try simp only [Act.put, List.setIfInBounds_toArray, List.set_cons_zero, List.set_cons_succ, List.getElem_toArray, List.getElem_cons_succ, List.getElem_cons_zero])
  refine held_take 6 _ _ rfl (by kernel_rfl) (by kernel_rfl) (by kernel_rfl) (fun _ _ _ h => h) (by rfl) hHeld2 (fun w hSw => by (try dsimp only at hSw); go_simp; try with_reducible rfl) ?_
  (try simp only [Act.put, List.setIfInBounds_toArray, List.set_cons_zero, List.set_cons_succ, List.getElem_toArray, List.getElem_cons_succ, List.getElem_cons_zero])
  refine wpAnyH_done (by kernel_rfl) ?_ _
  have hBz := hHeld2.2.2.2
  clear hS0 cB cH hHeld2
  go_wp2_with fail
  go_ret
  exact ⟨rfl, hBz⟩

set_option maxRecDepth 100000 in
set_option maxHeartbeats 800000 in
theorem impl_behind_MinimalIn (G : List Int) (n k : Int) (p1 p2 p3 : Nat) (w : World) (hs : isSgB G = true) (hn : -1000000 ≤ n ∧ n ≤ 1000000) (hk : -1000000 ≤ k ∧ k ≤ 1000000) (h2 : p2 < w.heap.size) (h3 : p3 < w.heap.size)
    (hA : Arr w p1 49 (tabB (elF G) 260)) (hk2 : w.cell? ⟨p2, 0, none⟩ = some (.func (.func 67) #[] #[])) (hk3 : w.cell? ⟨p3, 0, none⟩ = some (.int .i64 n)) :
    Calls Tryz.prog 97 #[.int .i64 k, .pointer (some ⟨p1, 0, none⟩), .pointer (some ⟨p2, 0, none⟩), .pointer (some ⟨p3, 0, none⟩)] w fun e w' => e = .returned (.bool (hasN G (behN true n k))) ∧ Below w.heap.size w w' := by
  have hS0 : Arr w.drew p1 49 (tabB (elF G) 260) ∧ w.drew.cell? ⟨p2, 0, none⟩ = some (.func (.func 67) #[] #[]) ∧ w.drew.cell? ⟨p3, 0, none⟩ = some (.int .i64 n) ∧ Below w.heap.size w w.drew := ⟨hA, hk2, hk3, (Below.refl _ _).drew⟩
  have cB := fun w' => impl_MinimalIn_beh n k w' hn hk
  have cH : ∀ w', Calls Tryz.prog 63 #[.agg (tabB (elF G) 260).toArray, .int .i64 (behN true n k)] w' fun e w2 => e = .returned (.bool (hasN G (behN true n k))) ∧ Below w'.heap.size w' w2 := fun w' => impl_has (elF G) (behN true n k) _ w' (hasN_way G _ hs)
  generalize behN true n k = d at *
  generalize hasN G d = q at *
  clear hs hn hk
  go_enter Tryz.func97, Tryz.ntmps97
  go_wp2_with fail
  refine wp_region_held_drew (S := fun w' => Arr w' p1 49 (tabB (elF G) 260) ∧ w'.cell? ⟨p2, 0, none⟩ = some (.func (.func 67) #[] #[]) ∧ w'.cell? ⟨p3, 0, none⟩ = some (.int .i64 n) ∧ Below w.heap.size w w') (by kernel_rfl) hS0 (fun hHeld => ?_)
  refine held_take_arr 0 _ 49 (.tmp 1) p1 (tabB (elF G) 260) (.array 260 4) undT rfl (sizeTl _) (fun _ h => h.1) rfl (by kernel_rfl) (by kernel_rfl) (by kernel_rfl) (fun _ _ _ h => h) (by rfl) rfl rfl hHeld ?_
  (try simp only [Act.put, List.setIfInBounds_toArray, List.set_cons_zero, List.set_cons_succ, List.getElem_toArray, List.getElem_cons_zero])
  refine held_take 1 _ _ rfl (by kernel_rfl) (by kernel_rfl) (by kernel_rfl) (fun _ _ _ h => h) (by rfl) hHeld (fun w hSw => by (try dsimp only at hSw); go_simp; try with_reducible rfl) ?_
  (try simp only [Act.put, List.setIfInBounds_toArray, List.set_cons_zero, List.set_cons_succ, List.getElem_toArray, List.getElem_cons_succ, List.getElem_cons_zero])
  refine held_take 2 _ _ rfl (by kernel_rfl) (by kernel_rfl) (by kernel_rfl) (fun _ _ _ h => h) (by rfl) hHeld (fun w hSw => by (try dsimp only at hSw); go_simp; try with_reducible rfl) ?_
  (try simp only [Act.put, List.setIfInBounds_toArray, List.set_cons_zero, List.set_cons_succ, List.getElem_toArray, List.getElem_cons_succ, List.getElem_cons_zero])
  refine held_take 3 _ _ rfl (by kernel_rfl) (by kernel_rfl) (by kernel_rfl) (fun _ _ _ h => h) (by rfl) hHeld (fun w hSw => by (try dsimp only at hSw); go_simp; try with_reducible rfl) ?_
  (try simp only [Act.put, List.setIfInBounds_toArray, List.set_cons_zero, List.set_cons_succ, List.getElem_toArray, List.getElem_cons_succ, List.getElem_cons_zero])
  refine wpAnyH_ready (rs := [4]) (by kernel_rfl) (by simp) ?_
  refine AllReadyH.cons rfl (fun K hK => ?_) AllReadyH.nil
  rw [if_pos (by rfl)]
  go_wp2_with (first | ((with_reducible refine (cB _).mono ?_); rintro e wk ⟨rfl, hww⟩; have hbk := below_eq hww; clear hww))
  refine hK.out _ _ (keepC10 h2 h3 hHeld hbk) (fun hHeld1 => ?_)
  clear hK K
  (try simp only [Act.put, List.setIfInBounds_toArray, List.set_cons_zero, List.set_cons_succ, List.getElem_toArray, List.getElem_cons_succ, List.getElem_cons_zero])
  refine wpAnyH_ready (rs := [5]) (by kernel_rfl) (by simp) ?_
  refine AllReadyH.cons rfl (fun K hK => ?_) AllReadyH.nil
  rw [if_pos (by rfl)]
  go_wp2_with (first | (go_at_call 63; (with_reducible refine (cH _).mono ?_); rintro e wk ⟨rfl, hbk⟩))
  refine hK.out _ _ (keepC10 h2 h3 hHeld1 hbk) (fun hHeld2 => ?_)
  clear hK K
  (try simp only [Act.put, List.setIfInBounds_toArray, List.set_cons_zero, List.set_cons_succ, List.getElem_toArray, List.getElem_cons_succ, List.getElem_cons_zero])
  refine held_take 6 _ _ rfl (by kernel_rfl) (by kernel_rfl) (by kernel_rfl) (fun _ _ _ h => h) (by rfl) hHeld2 (fun w hSw => by (try dsimp only at hSw); go_simp; try with_reducible rfl) ?_
  (try simp only [Act.put, List.setIfInBounds_toArray, List.set_cons_zero, List.set_cons_succ, List.getElem_toArray, List.getElem_cons_succ, List.getElem_cons_zero])
  refine wpAnyH_done (by kernel_rfl) ?_ _
  have hBz := hHeld2.2.2.2
  clear hS0 cB cH hHeld2
  go_wp2_with fail
  go_ret
  exact ⟨rfl, hBz⟩

set_option maxRecDepth 100000 in
set_option maxHeartbeats 3200000 in
theorem impl_extremesOf_MaximalOf (G L : List Int) (a : Option Addr) (cap : Nat) (al : Option Addr) (cl : Nat) (w : World) (hr : SlV w a (G.map (Value.int .i64))) (hrl : SlV w al (L.map (Value.int .i64))) (hb : G.length ≤ 1048576) (hbl : L.length ≤ 1048576) :
    Calls Tryz.prog 66 #[.agg #[.slice a G.length cap], .slice al L.length cl, .func (.func 99) #[] #[]] w (SlPost (topL G L false) w) := by
  obtain ⟨i0, hi, hz0, hz1, hz2⟩ := info_parts infoIntL
  have hb0 : Below w.heap.size w ((w.alloc (.cells #[.slice a G.length cap] 26)).alloc (.cells #[.func (.func 99) #[] #[]] 69)) := (box_below w _).alloc (by simp) _
  have hS0 : Arr ((w.alloc (.cells #[.slice a G.length cap] 26)).alloc (.cells #[.func (.func 99) #[] #[]] 69)) w.heap.size 26 [.slice a G.length cap] := (Arr.new w 26 [.slice a G.length cap]).alloc _
  have hF0 : Arr ((w.alloc (.cells #[.slice a G.length cap] 26)).alloc (.cells #[.func (.func 99) #[] #[]] 69)) (w.heap.size + 1) 69 [.func (.func 99) #[] #[]] := by have h := Arr.new (w.alloc (.cells #[.slice a G.length cap] 26)) 69 [.func (.func 99) #[] #[]]; rw [World.size_alloc] at h; exact h
  have hc0 := hS0.cell 0
  have hzb : ((w.alloc (.cells #[.slice a G.length cap] 26)).alloc (.cells #[.func (.func 99) #[] #[]] 69)).heap.size = w.heap.size + 2 := by simp
  have c1 := impl_elementsOf G a cap _ (hr.below hb0) hb
  have HT := fun f => Lib.hid (tabB_one f 260)
  cases hs : isSgB G
  · have HE := Lib.hid (topL_no (L := L) (dn := false) (.inl hs))
    unfold ElPost at c1
    rw [hs] at c1
    clear hs hr hrl
    go_enter Tryz.func66, Tryz.ntmps66
    go_wp2_with fail
    refine c1.mono ?_
    rintro e w1 ⟨rfl, hb1⟩
    have hbz := hb0.trans (hb1.mono hb0.size)
    have hA := Arr.new w1 49 (tabB (fun _ => false) 260)
    have hbz2 := hbz.alloc (o := .cells (tabB (fun _ => false) 260).toArray 49) hbz.size
    have hzw := hb1.size
    rw [hzb] at hzw
    clear c1 hc0 hb1 hb0 hS0 hF0
    go_wp2_with (first
      | (refine wpList_alloc_arr 49 (tabB (fun _ => false) 260) zeroT rfl rfl ?_)
      | (refine wpList_store_arr 49 (.tmp 7) (.tmp 16) w1.heap.size (tabB (fun _ => false) 260) (tabB (elF G) 260) rfl rfl rfl rfl hA (by rw [tabB_length, tabB_length]) (sizeTl _) (HT _).out ?_; intro w3 hB hg3 hz3))
    have hb3 := hbz2.grown hg3 hbz2.size (fun k hk => by cases hk; exact hbz.size)
    go_ret
    exact ⟨_, rfl, by rw [HE.out]; exact World.ownsRow_nil _ _ _ _, hb3⟩
  · have cA := fun w' (h : SlV w' al (L.map (Value.int .i64))) => impl_areWithinMax L al cl w' h (by unfold maxLen; omega)
    cases hal : L.all small
    · have HE := Lib.hid (topL_no (G := G) (dn := false) (.inr hal))
      unfold ElPost at c1
      rw [hs] at c1
      rw [hal] at cA
      clear hs hal hr
      go_enter Tryz.func66, Tryz.ntmps66
      go_wp2_with fail
      refine c1.mono ?_
      rintro e w1 ⟨rfl, hb1⟩
      have hbz := hb0.trans (hb1.mono hb0.size)
      have hA := Arr.new w1 49 (tabB (fun _ => false) 260)
      have hbz2 := hbz.alloc (o := .cells (tabB (fun _ => false) 260).toArray 49) hbz.size
      have hzw := hb1.size
      rw [hzb] at hzw
      clear c1 hc0 hb1 hb0 hS0 hF0
      go_wp2_with (first
        | (refine wpList_alloc_arr 49 (tabB (fun _ => false) 260) zeroT rfl rfl ?_)
        | (refine wpList_store_arr 49 (.tmp 7) (.tmp 16) w1.heap.size (tabB (fun _ => false) 260) (tabB (elF G) 260) rfl rfl rfl rfl hA (by rw [tabB_length, tabB_length]) (sizeTl _) (HT _).out ?_; intro w3 hB hg3 hz3))
      have hb3 := hbz2.grown hg3 hbz2.size (fun k hk => by cases hk; exact hbz.size)
      refine (cA w3 (hrl.below hb3)).mono ?_
      rintro e w4 ⟨rfl, hww⟩
      subst hww
      go_wp2_with fail
      go_ret
      exact ⟨_, rfl, by rw [HE.out]; exact World.ownsRow_nil _ _ _ _, hb3⟩
    · have HDN := Lib.hid (fun (P K : List Int) (h : Keeps G P K false) hm => Keeps.done (L := L) hs hal h hm)
      have HS := Lib.hid fun x hx => small_iff.1 (List.all_eq_true.1 hal x hx)
      have HMS := Lib.hid (fun (P K : List Int) (n : Int) (h : Keeps G P K false) ho hk => Keeps.miss (n := n) hs h ho hk)
      have cBH := fun (n k : Int) (p1 p2 p3 : Nat) (W : World) hn hk h2 h3 hA' hk2 hk3 => impl_behind_MaximalOf G n k p1 p2 p3 W hs hn hk h2 h3 hA' hk2 hk3
      have hal' := Lib.hid hal
      unfold ElPost at c1
      rw [hs] at c1
      rw [hal] at cA
      clear hs hal hr
      go_enter Tryz.func66, Tryz.ntmps66
      go_wp2_with fail
      refine c1.mono ?_
      rintro e w1 ⟨rfl, hb1⟩
      have hbz := hb0.trans (hb1.mono hb0.size)
      have hA := Arr.new w1 49 (tabB (fun _ => false) 260)
      have hbz2 := hbz.alloc (o := .cells (tabB (fun _ => false) 260).toArray 49) hbz.size
      have hzw := hb1.size
      rw [hzb] at hzw
      have hSA := (hS0.below hb1).alloc (.cells (tabB (fun _ => false) 260).toArray 49)
      have hFA := (hF0.below hb1).alloc (.cells (tabB (fun _ => false) 260).toArray 49)
      clear c1 hc0 hb1 hb0 hS0 hF0
      go_wp2_with (first
        | (refine wpList_alloc_arr 49 (tabB (fun _ => false) 260) zeroT rfl rfl ?_)
        | (refine wpList_store_arr 49 (.tmp 7) (.tmp 16) w1.heap.size (tabB (fun _ => false) 260) (tabB (elF G) 260) rfl rfl rfl rfl hA (by rw [tabB_length, tabB_length]) (sizeTl _) (HT _).out ?_; intro w3 hB hg3 hz3))
      have hb3 := hbz2.grown hg3 hbz2.size (fun k hk => by cases hk; exact hbz.size)
      have hF3 := hFA.grown hg3 (fun e => by have := Option.some.inj e; omega)
      have hbz3 := hbz.size
      refine (cA w3 (hrl.below hb3)).mono ?_
      rintro e w4 ⟨rfl, hww⟩
      subst hww
      have cC := clone_any L al cl w4 (hrl.below hb3) hbl
      clear cA hA hSA hFA hg3 hz3 hbz2 hbz
      go_wp2_with fail
      refine cC.mono ?_
      rintro e w5 ⟨v5, rfl, ho5, hb5⟩
      have hF5 := hF3.below hb5
      have hB5 := hB.below hb5
      have hz5' := hb5.size
      have hbel5 := hb3.trans (hb5.mono hb3.size)
      have hz3' := hb3.size
      have cS := sort_MaximalOf w4.heap.size L v5 w5 ho5 hbl hz5' hal'.out
      have hF5c := hF5.cell 0
      have hzF := hF3.lt
      have hzB := hB.lt
      clear cC ho5 hrl
      go_wp2_with fail
      refine cS.mono ?_
      rintro e w6 ⟨rfl, N, ho6, hNl, hNm, hNp, hb6⟩
      have hF6 : Arr w6 (w.heap.size + 1) 69 [.func (.func 99) #[] #[]] := (hb6.block _ hzF).trans hF5
      have hB6 : Arr w6 w1.heap.size 49 (tabB (elF G) 260) := (hb6.block _ hzB).trans hB5
      have hbel6 : Below w.heap.size w w6 := hbel5.trans (hb6.mono hz3')
      have hz6 : w5.heap.size ≤ w6.heap.size := hb6.size
      have HNM := Lib.hid hNm
      have HNP := Lib.hid hNp
      have HSN : Hid (∀ x ∈ N, -1000000 ≤ x ∧ x ≤ 1000000) := Lib.hid fun x hx => HS.out x ((hNm x).1 hx)
      rw [← hNl] at ho6
      obtain ⟨a6, c6, rfl, rX⟩ := row_open ho6
      have hSN := rX.slv
      clear cS hF5 hB5 hF5c hF3 hB hb5 hb3 hbel5 hNm hNp hb6 ho6 rX hal' HS
      rw [← hNl]
      have hNL : N.length ≤ 1048576 := by omega
      replace hNl := Lib.hid hNl
      go_wp2_with fail
      go_loopw [10, 32] (fun v i wr => ∃ (k : Nat) (K : List Int), k ≤ N.length ∧ i = .int .i64 (k : Int) ∧ Hid (Keeps G (N.take k) K false) ∧ K.length ≤ k ∧ wr.ownsRow w6.heap.size 3 1 v K.length (K.map (Value.int .i64)) ∧ Below w6.heap.size w6 wr) (fun _ i _ => N.length - (intOf i).toNat)
      case atStart => exact ⟨0, [], Nat.zero_le _, rfl, Lib.hid (Keeps.nil _ _), by simp, World.ownsRow_nil _ _ _ _, Below.refl _ _⟩
      case round =>
        obtain ⟨k, K, hk, rfl, HK, hKl, hown, hbel⟩ := hrel
        have hbz := hbel.size
        by_cases hlt : k < N.length
        · have hlti : (k : Int) < (N.length : Int) := by omega
          obtain ⟨b, off, rfl, hbs, hcl⟩ := (hSN.below hbel).open (by intro h; rw [List.map_eq_nil_iff] at h; subst h; simp at hlt)
          have hcell : wr.cell? ⟨b, off + k, none⟩ = some (.int .i64 N[k]) := hcl k _ (by simp [hlt])
          have hk0 : (0 : Int) ≤ (k : Int) := by omega
          have hx := HSN.out N[k] (List.getElem_mem hlt)
          have HTK : Hid (N.take (k + 1) = N.take k ++ [N[k]]) := Lib.hid (by rw [List.take_add_one, List.getElem?_eq_getElem hlt]; rfl)
          have HBH : Hid (∀ p ∈ N.take k, 0 ≤ behN false N[k] p) := Lib.hid fun p hp => by
            obtain ⟨i, hi, rfl⟩ := List.getElem_of_mem hp
            rw [List.getElem_take]
            rw [List.length_take] at hi
            exact (List.pairwise_iff_getElem.1 HNP.out) i k (by omega) hlt (by omega)
          have HKS : Hid (∀ y ∈ K, -1000000 ≤ y ∧ y ≤ 1000000) := Lib.hid fun y hy => HSN.out y (List.mem_of_mem_take (HK.out.sub y hy))
          clear hcl
          generalize N[k] = x at *
          have hownA := hown
          obtain ⟨aK, cK, rfl, rK⟩ := row_open hown
          have hA8 := (hB6.below hbel).alloc (.cells #[.int .i64 x] 3)
          have hF8 := (hF6.below hbel).alloc (.cells #[.int .i64 x] 3)
          have hN8 := Arr.new wr 3 [.int .i64 x]
          obtain ⟨w8, hw8⟩ : ∃ w8, w8 = wr.alloc (.cells #[.int .i64 x] 3) := ⟨_, rfl⟩
          have hb8 : Below wr.heap.size wr w8 := by rw [hw8]; exact box_below _ _
          rw [show wr.alloc (.cells [Value.int .i64 x].toArray 3) = w8 from hw8.symm] at hN8
          rw [← hw8] at hA8 hF8
          have HW8 := Lib.hid hw8
          clear hw8
          have hz8 : wr.heap.size < w8.heap.size := hN8.lt
          have cc := contains_any (fun y => hasN G (behN false x y)) K aK cK w1.heap.size (w.heap.size + 1) wr.heap.size w8 (rK.slv.below hb8) (by omega) (fun y hy W hW => cBH x y w1.heap.size (w.heap.size + 1) wr.heap.size W hx (HKS.out y hy) (Nat.lt_of_lt_of_le hF8.lt hW.size) (Nat.lt_of_lt_of_le hz8 hW.size) (hA8.below hW) ((hF8.below hW).cell 0) ((hN8.below hW).cell 0))
          have HY : Hid (K.any (fun y => hasN G (behN false x y)) = true → Keeps G (N.take (k + 1)) K false) := Lib.hid fun h => by
            rw [HTK.out]
            obtain ⟨y, hy, hq⟩ := List.any_eq_true.1 h
            exact HK.out.hit HBH.out ⟨y, hy, hq⟩
          have HN : Hid (K.any (fun y => hasN G (behN false x y)) = false → Keeps G (N.take (k + 1)) (K ++ [x]) false) := Lib.hid fun h => by
            rw [HTK.out]
            exact HMS.out _ _ _ HK.out HBH.out fun y hy => by simpa using List.any_eq_false.1 h y hy
          generalize K.any (fun y => hasN G (behN false x y)) = q at *
          have hmf : ∀ (fn : Fn) (first cap : Array Value) (w : World), (Instr.makeFunc fn first cap).run Tryz.prog w = .ok (.func fn first cap) w := fun _ _ _ _ => rfl
          clear HKS HBH HTK hA8 hF8 rK hx
          go_wp2_with fail
          rw [← HW8.out]
          refine cc.mono ?_
          rintro e w9 ⟨rfl, hb9⟩
          have hown9 := owns_below (owns_below hownA hb8) hb9
          have hbel8 := hbel.trans (hb8.mono hbel.size)
          have hbel9 := hbel8.trans (hb9.mono hbel8.size)
          have hN9 := hN8.below hb9
          have hcn := hN9.cell 0
          have hsz9 := hbel9.size
          have hK9 : wr.heap.size < w9.heap.size := Nat.lt_of_lt_of_le hz8 hb9.size
          clear cc hownA hown hb8 hb9 hbel8 hN8 hcell hmf HW8
          cases q
          · have HK2 := Lib.hid (HN.out rfl)
            clear HN HY
            go_wp2_with (first | (at_builtin; refine wpList_append_own _ rfl _ _ 24 rfl w6.heap.size 3 i0 (Value.int .i64 0) 1 8 Tryz.underlying24 hi hz0 hz1 hz2 rfl (by decide) _ _ _ rfl (hown9.alloc _) ⟨_, 0, none⟩ 1 1 [.int .i64 x] rfl rfl (World.news_of_block (cs := #[.int .i64 x]) (t := 3) (fr := (0, 0)) (heap_alloc_new _ _)) (by simp [Value.oneCell']) (by unfold maxLen; omega) (by omega) (by simp; omega) ?_; intro v6 w10 hown10 hg10 _))
            have hbel10 := (hbel9.alloc hsz9 (.cells #[.int .i64 x] 3)).grown hg10 (by simp; omega) (fun j hj => row_from hown9 j hj)
            have HO := Lib.hid hown10
            clear hown10 hg10 hown9
            go_roundw
            case rel => exact ⟨k + 1, K ++ [x], by omega, by go_num, HK2, by rw [List.length_append, List.length_singleton]; omega, by rw [List.length_append, List.length_singleton, List.map_append]; exact HO.out, hbel10⟩
            case measure => simp [intOf]; omega
          · have HK2 := Lib.hid (HY.out rfl)
            clear HN HY
            go_wp2_with fail
            go_roundw
            case rel => exact ⟨k + 1, K, by omega, by go_num, HK2, by omega, hown9, hbel9⟩
            case measure => simp [intOf]; omega
        · have hke : k = N.length := by omega
          have HE : Hid (sortL K = topL G L false) := Lib.hid (HDN.out N K (by have h := HK.out; rw [hke, List.take_of_length_le (Nat.le_refl _)] at h; exact h) HNM.out)
          have cO := impl_sortOnce w6.heap.size K _ wr hown (by omega) hbz
          have hz66 := hbel6.size
          clear hown HK hke
          go_wp2_with fail
          refine cO.mono ?_
          rintro e w9 ⟨u, rfl, ho9, hb9⟩
          have HO := Lib.hid ho9
          have hbel9 := hbel6.trans ((hbel.trans hb9).mono hz66)
          clear ho9 cO
          go_wp2_with fail
          go_ret
          exact ⟨_, rfl, by rw [← HE.out]; exact owns_wider HO.out hz66, hbel9⟩

set_option maxRecDepth 100000 in
set_option maxHeartbeats 800000 in
theorem impl_MaximalOf (G L : List Int) (a : Option Addr) (cap : Nat) (al : Option Addr) (cl : Nat) (w : World) (hr : SlV w a (G.map (Value.int .i64))) (hrl : SlV w al (L.map (Value.int .i64))) (hb : G.length ≤ 1048576) (hbl : L.length ≤ 1048576) :
    Calls Tryz.prog 72 #[.agg #[.slice a G.length cap], .slice al L.length cl] w (SlPost (topL G L false) w) := by
  have hb0 := box_below w (.cells #[.slice a G.length cap] 26)
  have hc0 := box_cell w (.slice a G.length cap)
  have c1 := impl_extremesOf_MaximalOf G L a cap al cl _ (hr.below hb0) (hrl.below hb0) hb hbl
  clear hr hrl
  generalize topL G L false = M at *
  go_enter Tryz.func72, Tryz.ntmps72
  go_wp2_with fail
  refine c1.mono ?_
  rintro e w1 ⟨v, rfl, ho, hb1⟩
  have HO := Lib.hid ho
  have hb01 := hb0.trans (hb1.mono hb0.size)
  clear ho c1
  go_wp2_with fail
  go_ret
  exact ⟨_, rfl, owns_wider HO.out hb0.size, hb01⟩

set_option maxRecDepth 100000 in
set_option maxHeartbeats 3200000 in
theorem impl_extremesOf_MinimalIn (G L : List Int) (a : Option Addr) (cap : Nat) (al : Option Addr) (cl : Nat) (w : World) (hr : SlV w a (G.map (Value.int .i64))) (hrl : SlV w al (L.map (Value.int .i64))) (hb : G.length ≤ 1048576) (hbl : L.length ≤ 1048576) :
    Calls Tryz.prog 66 #[.agg #[.slice a G.length cap], .slice al L.length cl, .func (.func 67) #[] #[]] w (SlPost (topL G L true) w) := by
  obtain ⟨i0, hi, hz0, hz1, hz2⟩ := info_parts infoIntL
  have hb0 : Below w.heap.size w ((w.alloc (.cells #[.slice a G.length cap] 26)).alloc (.cells #[.func (.func 67) #[] #[]] 69)) := (box_below w _).alloc (by simp) _
  have hS0 : Arr ((w.alloc (.cells #[.slice a G.length cap] 26)).alloc (.cells #[.func (.func 67) #[] #[]] 69)) w.heap.size 26 [.slice a G.length cap] := (Arr.new w 26 [.slice a G.length cap]).alloc _
  have hF0 : Arr ((w.alloc (.cells #[.slice a G.length cap] 26)).alloc (.cells #[.func (.func 67) #[] #[]] 69)) (w.heap.size + 1) 69 [.func (.func 67) #[] #[]] := by have h := Arr.new (w.alloc (.cells #[.slice a G.length cap] 26)) 69 [.func (.func 67) #[] #[]]; rw [World.size_alloc] at h; exact h
  have hc0 := hS0.cell 0
  have hzb : ((w.alloc (.cells #[.slice a G.length cap] 26)).alloc (.cells #[.func (.func 67) #[] #[]] 69)).heap.size = w.heap.size + 2 := by simp
  have c1 := impl_elementsOf G a cap _ (hr.below hb0) hb
  have HT := fun f => Lib.hid (tabB_one f 260)
  cases hs : isSgB G
  · have HE := Lib.hid (topL_no (L := L) (dn := true) (.inl hs))
    unfold ElPost at c1
    rw [hs] at c1
    clear hs hr hrl
    go_enter Tryz.func66, Tryz.ntmps66
    go_wp2_with fail
    refine c1.mono ?_
    rintro e w1 ⟨rfl, hb1⟩
    have hbz := hb0.trans (hb1.mono hb0.size)
    have hA := Arr.new w1 49 (tabB (fun _ => false) 260)
    have hbz2 := hbz.alloc (o := .cells (tabB (fun _ => false) 260).toArray 49) hbz.size
    have hzw := hb1.size
    rw [hzb] at hzw
    clear c1 hc0 hb1 hb0 hS0 hF0
    go_wp2_with (first
      | (refine wpList_alloc_arr 49 (tabB (fun _ => false) 260) zeroT rfl rfl ?_)
      | (refine wpList_store_arr 49 (.tmp 7) (.tmp 16) w1.heap.size (tabB (fun _ => false) 260) (tabB (elF G) 260) rfl rfl rfl rfl hA (by rw [tabB_length, tabB_length]) (sizeTl _) (HT _).out ?_; intro w3 hB hg3 hz3))
    have hb3 := hbz2.grown hg3 hbz2.size (fun k hk => by cases hk; exact hbz.size)
    go_ret
    exact ⟨_, rfl, by rw [HE.out]; exact World.ownsRow_nil _ _ _ _, hb3⟩
  · have cA := fun w' (h : SlV w' al (L.map (Value.int .i64))) => impl_areWithinMax L al cl w' h (by unfold maxLen; omega)
    cases hal : L.all small
    · have HE := Lib.hid (topL_no (G := G) (dn := true) (.inr hal))
      unfold ElPost at c1
      rw [hs] at c1
      rw [hal] at cA
      clear hs hal hr
      go_enter Tryz.func66, Tryz.ntmps66
      go_wp2_with fail
      refine c1.mono ?_
      rintro e w1 ⟨rfl, hb1⟩
      have hbz := hb0.trans (hb1.mono hb0.size)
      have hA := Arr.new w1 49 (tabB (fun _ => false) 260)
      have hbz2 := hbz.alloc (o := .cells (tabB (fun _ => false) 260).toArray 49) hbz.size
      have hzw := hb1.size
      rw [hzb] at hzw
      clear c1 hc0 hb1 hb0 hS0 hF0
      go_wp2_with (first
        | (refine wpList_alloc_arr 49 (tabB (fun _ => false) 260) zeroT rfl rfl ?_)
        | (refine wpList_store_arr 49 (.tmp 7) (.tmp 16) w1.heap.size (tabB (fun _ => false) 260) (tabB (elF G) 260) rfl rfl rfl rfl hA (by rw [tabB_length, tabB_length]) (sizeTl _) (HT _).out ?_; intro w3 hB hg3 hz3))
      have hb3 := hbz2.grown hg3 hbz2.size (fun k hk => by cases hk; exact hbz.size)
      refine (cA w3 (hrl.below hb3)).mono ?_
      rintro e w4 ⟨rfl, hww⟩
      subst hww
      go_wp2_with fail
      go_ret
      exact ⟨_, rfl, by rw [HE.out]; exact World.ownsRow_nil _ _ _ _, hb3⟩
    · have HDN := Lib.hid (fun (P K : List Int) (h : Keeps G P K true) hm => Keeps.done (L := L) hs hal h hm)
      have HS := Lib.hid fun x hx => small_iff.1 (List.all_eq_true.1 hal x hx)
      have HMS := Lib.hid (fun (P K : List Int) (n : Int) (h : Keeps G P K true) ho hk => Keeps.miss (n := n) hs h ho hk)
      have cBH := fun (n k : Int) (p1 p2 p3 : Nat) (W : World) hn hk h2 h3 hA' hk2 hk3 => impl_behind_MinimalIn G n k p1 p2 p3 W hs hn hk h2 h3 hA' hk2 hk3
      have hal' := Lib.hid hal
      unfold ElPost at c1
      rw [hs] at c1
      rw [hal] at cA
      clear hs hal hr
      go_enter Tryz.func66, Tryz.ntmps66
      go_wp2_with fail
      refine c1.mono ?_
      rintro e w1 ⟨rfl, hb1⟩
      have hbz := hb0.trans (hb1.mono hb0.size)
      have hA := Arr.new w1 49 (tabB (fun _ => false) 260)
      have hbz2 := hbz.alloc (o := .cells (tabB (fun _ => false) 260).toArray 49) hbz.size
      have hzw := hb1.size
      rw [hzb] at hzw
      have hSA := (hS0.below hb1).alloc (.cells (tabB (fun _ => false) 260).toArray 49)
      have hFA := (hF0.below hb1).alloc (.cells (tabB (fun _ => false) 260).toArray 49)
      clear c1 hc0 hb1 hb0 hS0 hF0
      go_wp2_with (first
        | (refine wpList_alloc_arr 49 (tabB (fun _ => false) 260) zeroT rfl rfl ?_)
        | (refine wpList_store_arr 49 (.tmp 7) (.tmp 16) w1.heap.size (tabB (fun _ => false) 260) (tabB (elF G) 260) rfl rfl rfl rfl hA (by rw [tabB_length, tabB_length]) (sizeTl _) (HT _).out ?_; intro w3 hB hg3 hz3))
      have hb3 := hbz2.grown hg3 hbz2.size (fun k hk => by cases hk; exact hbz.size)
      have hF3 := hFA.grown hg3 (fun e => by have := Option.some.inj e; omega)
      have hbz3 := hbz.size
      refine (cA w3 (hrl.below hb3)).mono ?_
      rintro e w4 ⟨rfl, hww⟩
      subst hww
      have cC := clone_any L al cl w4 (hrl.below hb3) hbl
      clear cA hA hSA hFA hg3 hz3 hbz2 hbz
      go_wp2_with fail
      refine cC.mono ?_
      rintro e w5 ⟨v5, rfl, ho5, hb5⟩
      have hF5 := hF3.below hb5
      have hB5 := hB.below hb5
      have hz5' := hb5.size
      have hbel5 := hb3.trans (hb5.mono hb3.size)
      have hz3' := hb3.size
      have cS := sort_MinimalIn w4.heap.size L v5 w5 ho5 hbl hz5' hal'.out
      have hF5c := hF5.cell 0
      have hzF := hF3.lt
      have hzB := hB.lt
      clear cC ho5 hrl
      go_wp2_with fail
      refine cS.mono ?_
      rintro e w6 ⟨rfl, N, ho6, hNl, hNm, hNp, hb6⟩
      have hF6 : Arr w6 (w.heap.size + 1) 69 [.func (.func 67) #[] #[]] := (hb6.block _ hzF).trans hF5
      have hB6 : Arr w6 w1.heap.size 49 (tabB (elF G) 260) := (hb6.block _ hzB).trans hB5
      have hbel6 : Below w.heap.size w w6 := hbel5.trans (hb6.mono hz3')
      have hz6 : w5.heap.size ≤ w6.heap.size := hb6.size
      have HNM := Lib.hid hNm
      have HNP := Lib.hid hNp
      have HSN : Hid (∀ x ∈ N, -1000000 ≤ x ∧ x ≤ 1000000) := Lib.hid fun x hx => HS.out x ((hNm x).1 hx)
      rw [← hNl] at ho6
      obtain ⟨a6, c6, rfl, rX⟩ := row_open ho6
      have hSN := rX.slv
      clear cS hF5 hB5 hF5c hF3 hB hb5 hb3 hbel5 hNm hNp hb6 ho6 rX hal' HS
      rw [← hNl]
      have hNL : N.length ≤ 1048576 := by omega
      replace hNl := Lib.hid hNl
      go_wp2_with fail
      go_loopw [10, 32] (fun v i wr => ∃ (k : Nat) (K : List Int), k ≤ N.length ∧ i = .int .i64 (k : Int) ∧ Hid (Keeps G (N.take k) K true) ∧ K.length ≤ k ∧ wr.ownsRow w6.heap.size 3 1 v K.length (K.map (Value.int .i64)) ∧ Below w6.heap.size w6 wr) (fun _ i _ => N.length - (intOf i).toNat)
      case atStart => exact ⟨0, [], Nat.zero_le _, rfl, Lib.hid (Keeps.nil _ _), by simp, World.ownsRow_nil _ _ _ _, Below.refl _ _⟩
      case round =>
        obtain ⟨k, K, hk, rfl, HK, hKl, hown, hbel⟩ := hrel
        have hbz := hbel.size
        by_cases hlt : k < N.length
        · have hlti : (k : Int) < (N.length : Int) := by omega
          obtain ⟨b, off, rfl, hbs, hcl⟩ := (hSN.below hbel).open (by intro h; rw [List.map_eq_nil_iff] at h; subst h; simp at hlt)
          have hcell : wr.cell? ⟨b, off + k, none⟩ = some (.int .i64 N[k]) := hcl k _ (by simp [hlt])
          have hk0 : (0 : Int) ≤ (k : Int) := by omega
          have hx := HSN.out N[k] (List.getElem_mem hlt)
          have HTK : Hid (N.take (k + 1) = N.take k ++ [N[k]]) := Lib.hid (by rw [List.take_add_one, List.getElem?_eq_getElem hlt]; rfl)
          have HBH : Hid (∀ p ∈ N.take k, 0 ≤ behN true N[k] p) := Lib.hid fun p hp => by
            obtain ⟨i, hi, rfl⟩ := List.getElem_of_mem hp
            rw [List.getElem_take]
            rw [List.length_take] at hi
            exact (List.pairwise_iff_getElem.1 HNP.out) i k (by omega) hlt (by omega)
          have HKS : Hid (∀ y ∈ K, -1000000 ≤ y ∧ y ≤ 1000000) := Lib.hid fun y hy => HSN.out y (List.mem_of_mem_take (HK.out.sub y hy))
          clear hcl
          generalize N[k] = x at *
          have hownA := hown
          obtain ⟨aK, cK, rfl, rK⟩ := row_open hown
          have hA8 := (hB6.below hbel).alloc (.cells #[.int .i64 x] 3)
          have hF8 := (hF6.below hbel).alloc (.cells #[.int .i64 x] 3)
          have hN8 := Arr.new wr 3 [.int .i64 x]
          obtain ⟨w8, hw8⟩ : ∃ w8, w8 = wr.alloc (.cells #[.int .i64 x] 3) := ⟨_, rfl⟩
          have hb8 : Below wr.heap.size wr w8 := by rw [hw8]; exact box_below _ _
          rw [show wr.alloc (.cells [Value.int .i64 x].toArray 3) = w8 from hw8.symm] at hN8
          rw [← hw8] at hA8 hF8
          have HW8 := Lib.hid hw8
          clear hw8
          have hz8 : wr.heap.size < w8.heap.size := hN8.lt
          have cc := contains_any (fun y => hasN G (behN true x y)) K aK cK w1.heap.size (w.heap.size + 1) wr.heap.size w8 (rK.slv.below hb8) (by omega) (fun y hy W hW => cBH x y w1.heap.size (w.heap.size + 1) wr.heap.size W hx (HKS.out y hy) (Nat.lt_of_lt_of_le hF8.lt hW.size) (Nat.lt_of_lt_of_le hz8 hW.size) (hA8.below hW) ((hF8.below hW).cell 0) ((hN8.below hW).cell 0))
          have HY : Hid (K.any (fun y => hasN G (behN true x y)) = true → Keeps G (N.take (k + 1)) K true) := Lib.hid fun h => by
            rw [HTK.out]
            obtain ⟨y, hy, hq⟩ := List.any_eq_true.1 h
            exact HK.out.hit HBH.out ⟨y, hy, hq⟩
          have HN : Hid (K.any (fun y => hasN G (behN true x y)) = false → Keeps G (N.take (k + 1)) (K ++ [x]) true) := Lib.hid fun h => by
            rw [HTK.out]
            exact HMS.out _ _ _ HK.out HBH.out fun y hy => by simpa using List.any_eq_false.1 h y hy
          generalize K.any (fun y => hasN G (behN true x y)) = q at *
          have hmf : ∀ (fn : Fn) (first cap : Array Value) (w : World), (Instr.makeFunc fn first cap).run Tryz.prog w = .ok (.func fn first cap) w := fun _ _ _ _ => rfl
          clear HKS HBH HTK hA8 hF8 rK hx
          go_wp2_with fail
          rw [← HW8.out]
          refine cc.mono ?_
          rintro e w9 ⟨rfl, hb9⟩
          have hown9 := owns_below (owns_below hownA hb8) hb9
          have hbel8 := hbel.trans (hb8.mono hbel.size)
          have hbel9 := hbel8.trans (hb9.mono hbel8.size)
          have hN9 := hN8.below hb9
          have hcn := hN9.cell 0
          have hsz9 := hbel9.size
          have hK9 : wr.heap.size < w9.heap.size := Nat.lt_of_lt_of_le hz8 hb9.size
          clear cc hownA hown hb8 hb9 hbel8 hN8 hcell hmf HW8
          cases q
          · have HK2 := Lib.hid (HN.out rfl)
            clear HN HY
            go_wp2_with (first | (at_builtin; refine wpList_append_own _ rfl _ _ 24 rfl w6.heap.size 3 i0 (Value.int .i64 0) 1 8 Tryz.underlying24 hi hz0 hz1 hz2 rfl (by decide) _ _ _ rfl (hown9.alloc _) ⟨_, 0, none⟩ 1 1 [.int .i64 x] rfl rfl (World.news_of_block (cs := #[.int .i64 x]) (t := 3) (fr := (0, 0)) (heap_alloc_new _ _)) (by simp [Value.oneCell']) (by unfold maxLen; omega) (by omega) (by simp; omega) ?_; intro v6 w10 hown10 hg10 _))
            have hbel10 := (hbel9.alloc hsz9 (.cells #[.int .i64 x] 3)).grown hg10 (by simp; omega) (fun j hj => row_from hown9 j hj)
            have HO := Lib.hid hown10
            clear hown10 hg10 hown9
            go_roundw
            case rel => exact ⟨k + 1, K ++ [x], by omega, by go_num, HK2, by rw [List.length_append, List.length_singleton]; omega, by rw [List.length_append, List.length_singleton, List.map_append]; exact HO.out, hbel10⟩
            case measure => simp [intOf]; omega
          · have HK2 := Lib.hid (HY.out rfl)
            clear HN HY
            go_wp2_with fail
            go_roundw
            case rel => exact ⟨k + 1, K, by omega, by go_num, HK2, by omega, hown9, hbel9⟩
            case measure => simp [intOf]; omega
        · have hke : k = N.length := by omega
          have HE : Hid (sortL K = topL G L true) := Lib.hid (HDN.out N K (by have h := HK.out; rw [hke, List.take_of_length_le (Nat.le_refl _)] at h; exact h) HNM.out)
          have cO := impl_sortOnce w6.heap.size K _ wr hown (by omega) hbz
          have hz66 := hbel6.size
          clear hown HK hke
          go_wp2_with fail
          refine cO.mono ?_
          rintro e w9 ⟨u, rfl, ho9, hb9⟩
          have HO := Lib.hid ho9
          have hbel9 := hbel6.trans ((hbel.trans hb9).mono hz66)
          clear ho9 cO
          go_wp2_with fail
          go_ret
          exact ⟨_, rfl, by rw [← HE.out]; exact owns_wider HO.out hz66, hbel9⟩

set_option maxRecDepth 100000 in
set_option maxHeartbeats 800000 in
theorem impl_MinimalIn (G L : List Int) (a : Option Addr) (cap : Nat) (al : Option Addr) (cl : Nat) (w : World) (hr : SlV w a (G.map (Value.int .i64))) (hrl : SlV w al (L.map (Value.int .i64))) (hb : G.length ≤ 1048576) (hbl : L.length ≤ 1048576) :
    Calls Tryz.prog 33 #[.agg #[.slice a G.length cap], .slice al L.length cl] w (SlPost (topL G L true) w) := by
  have hb0 := box_below w (.cells #[.slice a G.length cap] 26)
  have hc0 := box_cell w (.slice a G.length cap)
  have c1 := impl_extremesOf_MinimalIn G L a cap al cl _ (hr.below hb0) (hrl.below hb0) hb hbl
  clear hr hrl
  generalize topL G L true = M at *
  go_enter Tryz.func33, Tryz.ntmps33
  go_wp2_with fail
  refine c1.mono ?_
  rintro e w1 ⟨v, rfl, ho, hb1⟩
  have HO := Lib.hid ho
  have hb01 := hb0.trans (hb1.mono hb0.size)
  clear ho c1
  go_wp2_with fail
  go_ret
  exact ⟨_, rfl, owns_wider HO.out hb0.size, hb01⟩

end Go.Proofs.YtopnehkhigacpaaGreat
