/-
  CONTRACTS of the program's chapter 3, second part: with, has, tableOfSums.
-/
import Derived.Test.YtdjjagpecbflnaaGreatDoorI8
import Derived.Test.YtdjjagpecbflnaaGreatDoorL10
namespace Go.Proofs.YtdjjagpecbflnaaGreatDoor
open Go Go.RowKit

abbrev tyT : Nat := 62
theorem zeroT : (Tryz.prog.info? 62).map (·.zero) = some (some (.agg (tabB (fun _ => false) 260).toArray)) := by kernel_rfl
theorem sizeT : (Tryz.prog.info? 62).map (·.size) = some 260 := by kernel_rfl
theorem sizeTl (f : Nat → Bool) : (Tryz.prog.info? 62).map (·.size) = some (tabB f 260).length := by rw [tabB_length]; exact sizeT
theorem undT : Tryz.prog.underlying 62 = some (.array 260 4) := by kernel_rfl

theorem size_alloc (w : World) (o : Obj) : (w.alloc o).heap.size = w.heap.size + 1 := by simp

set_option maxRecDepth 100000 in
set_option maxHeartbeats 800000 in
theorem impl_with (f F : Nat → Bool) (x : Nat) (w : World) (hx : 1 ≤ x) (hx6 : x ≤ 60) (hlo : ∀ j, j < x → j < 260 → F j = f j) (hmid : ∀ j, x ≤ j → j < 260 → F j = (f j || F (j - x))) :
    Calls Tryz.prog 83 #[.agg (tabB f 260).toArray, .int .i64 (x : Int)] w fun e w' => e = .returned (.agg (tabB F 260).toArray) ∧ Below w.heap.size w w' := by
  have hA0 := Arr.new w 62 (tabB f 260)
  have hA1 := hA0.alloc (.cells (tabB (fun _ => false) 260).toArray 62)
  have hB1 := Arr.new (w.alloc (.cells (tabB f 260).toArray 62)) 62 (tabB (fun _ => false) 260)
  have hb0 : Below w.heap.size w ((w.alloc (.cells (tabB f 260).toArray 62)).alloc (.cells (tabB (fun _ => false) 260).toArray 62)) := ((Below.refl _ _).alloc (Nat.le_refl _) _).alloc (by simp) _
  have cm := impl_markFurther f F w.heap.size 62 260 260 260 x _ hA1 (Nat.le_refl _) (by omega) hx hx6 hlo hmid (fun j h1 h2 => by omega)
  have hT := Lib.hid (tabB_one F 260)
  clear hlo hmid hA0 hA1
  go_enter Tryz.func83, Tryz.ntmps83
  go_wp2_with (first
    | (refine wpList_box_arr 62 (.tmp 0) (tabB f 260) rfl rfl rfl ?_)
    | (refine wpList_alloc_arr 62 (tabB (fun _ => false) 260) zeroT rfl rfl ?_))
  refine cm.mono ?_
  rintro e w2 ⟨rfl, ha2, hg2⟩
  have hB2 := hB1.grown hg2 (by simp)
  simp only [size_alloc] at hB2
  have hb2 := hb0.grown hg2 (by simp; omega) (fun k hk => by cases hk; exact Nat.le_refl _)
  clear cm hB1 hb0 hg2
  go_wp2_with (first
    | (refine wpList_load_arr 62 (.tmp 2) w.heap.size (tabB F 260) (.array 260 4) rfl rfl rfl ha2 undT rfl (sizeTl F) ?_)
    | (refine wpList_store_arr 62 (.tmp 4) (.tmp 8) (w.heap.size + 1) (tabB (fun _ => false) 260) (tabB F 260) rfl rfl rfl rfl hB2 (by rw [tabB_length, tabB_length]) (sizeTl F) hT.out ?_; intro w3 ha3 hg3 hz3))
  have hb3 := hb2.grown hg3 hb2.size (fun k hk => by cases hk; omega)
  exact bodyPost_ret (results_arr rfl _ _ (w.heap.size + 1) (tabB F 260) (.array 260 4) rfl ha3 undT rfl (sizeTl F)) rfl ⟨rfl, hb3⟩

theorem guardT : Tryz.prog.eqGuardType Tryz.prog.depth 62 = false := by kernel_rfl
theorem sizeBool (w : World) : (sizeOf 4).run Tryz.prog w = .ok 1 w := by kernel_rfl
theorem undBool : Tryz.prog.underlying 4 = some .bool := by kernel_rfl
theorem builtT : Tryz.prog.built 62 [(0, .bool true)] = some (tabB (fun j => j == 0) 260).toArray := by kernel_rfl
theorem sum_nil_tab (T : Nat) : tabB (fun j => j == 0) T = tabB (sumB []) T := tabB_congr fun j _ => by
  cases j with
  | zero => rw [sumB_zero]; rfl
  | succ j => rw [sumB_false.2 fun h => by have := isSum_nil h; omega]; rfl
/-- The table of more numbers, compared. -/
theorem tab_differs {G : List Int} {x : Nat} (_hx : 1 ≤ x) (hx6 : x ≤ 60) : (!(((List.range 260).map (sumB (G ++ [(x : Int)]))) == ((List.range 260).map (sumB G)))) = !sumB G x := by
  cases h : sumB G x
  · rw [Bool.not_eq_eq_eq_not, Bool.not_not, beq_eq_false_iff_ne]
    intro e
    have h1 := congrArg (fun l => l[x]?) e
    simp only [List.getElem?_map, List.getElem?_range (show x < 260 by omega), Option.map_some, Option.some.injEq] at h1
    rw [sumB_own, h] at h1
    cases h1
  · rw [Bool.not_eq_eq_eq_not, Bool.not_not, beq_iff_eq]
    exact List.map_congr_left fun j _ => sumB_idle h j

/-- A call made the table of the sums of S, and the list of those of S that are no sums of others. -/
def TabPost (S : List Int) (w : World) (e : Ending) (w' : World) : Prop :=
  ∃ v, e = .returned (.tuple #[.agg (tabB (sumB S) 260).toArray, v]) ∧ w'.ownsRow w.heap.size 3 1 v (minOf S).length ((minOf S).map (Value.int .i64)) ∧ Below w.heap.size w w'

theorem own_ne {w : World} {base : Nat} {e : TypeId} {v : Value} {n : Nat} {xs : List Value} (h : w.ownsRow base e 1 v n xs) {g : Nat} (hg : g < base ∨ w.heap.size ≤ g) : v.ownBlock = none ∨ v.ownBlock ≠ some g := by
  right
  intro e
  have := h.lt g e
  omega

theorem own_row {v : Value} {g : Nat} (h : v.ownBlock = none ∨ v.ownBlock ≠ some g) : some g ≠ v.ownBlock := by
  rcases h with h | h
  · rw [h]; simp
  · exact fun e => h e.symm

set_option maxRecDepth 100000 in
set_option maxHeartbeats 1600000 in
theorem impl_tableOfSums (S : List Int) (a : Option Addr) (cap : Nat) (w : World) (hr : SlV w a (S.map (Value.int .i64))) (hS : Asc S) (hb : ∀ x ∈ S, 1 ≤ x ∧ x ≤ 60) (hl : S.length ≤ 20) :
    Calls Tryz.prog 69 #[.slice a S.length cap] w (TabPost S w) := by
  obtain ⟨i0, hi, hz0, hz1, hz2⟩ := info_parts infoIntL
  have hA2 := Arr.new w 62 (tabB (fun _ => false) 260)
  have hA2' := hA2.alloc (.cells (tabB (fun _ => false) 260).toArray 62)
  have hA4 := Arr.new (w.alloc (.cells (tabB (fun _ => false) 260).toArray 62)) 62 (tabB (fun _ => false) 260)
  have hb0 : Below w.heap.size w ((w.alloc (.cells (tabB (fun _ => false) 260).toArray 62)).alloc (.cells (tabB (fun _ => false) 260).toArray 62)) := ((Below.refl _ _).alloc (Nat.le_refl _) _).alloc (by simp) _
  have hsz0 : ((w.alloc (.cells (tabB (fun _ => false) 260).toArray 62)).alloc (.cells (tabB (fun _ => false) 260).toArray 62)).heap.size = w.heap.size + 2 := by simp
  have HS := Lib.hid hS
  have HB := Lib.hid hb
  have HT := fun f => Lib.hid (tabB_one f 260)
  clear hS hb hA2
  go_enter Tryz.func69, Tryz.ntmps69
  go_wp2_with (first
    | (refine wpList_alloc_arr 62 (tabB (fun _ => false) 260) zeroT rfl rfl ?_)
    | (refine wpList_build_arr 62 _ (tabB (fun j => j == 0) 260) rfl rfl (by simpa [Act.eval] using builtT) ?_)
    | (refine wpList_store_arr 62 (.tmp 4) (.tmp 9) _ (tabB (fun _ => false) 260) (tabB (fun j => j == 0) 260) rfl rfl rfl rfl hA4 (by rw [tabB_length, tabB_length]) (sizeTl _) (HT _).out ?_; intro w1 ha4 hg1 hz1'))
  rw [size_alloc] at ha4 hg1
  have ha2 := hA2'.grown hg1 (by simp)
  have hb1 := hb0.grown hg1 (by omega) (fun k hk => by cases hk; omega)
  rw [sum_nil_tab] at ha4
  clear hA2' hA4 hb0 hg1
  rw [hsz0] at hz1'
  go_loopw [5, 12] (fun v i wr => ∃ (k : Nat) (M : List Int), k ≤ S.length ∧ i = .int .i64 (k : Int) ∧ M = ((S.take k).filter fun x => !sumB (S.filter fun y => decide (y < x)) x.toNat) ∧ M.length ≤ k ∧
      wr.ownsRow (w.heap.size + 2) 3 1 v M.length (M.map (Value.int .i64)) ∧ Arr wr (w.heap.size + 1) 62 (tabB (sumB (S.take k)) 260) ∧ Arr wr w.heap.size 62 (tabB (fun _ => false) 260) ∧ w.heap.size + 2 ≤ wr.heap.size ∧ Below w.heap.size w wr) (fun _ i _ => S.length - (intOf i).toNat)
  case atStart => exact ⟨0, [], Nat.zero_le _, rfl, by simp, by simp, World.ownsRow_nil _ _ _ _, ha4, ha2, by omega, hb1⟩
  case round =>
    clear ha4 ha2 hb1 hz1' hsz0
    obtain ⟨k, M, hk, rfl, hMe, hMk, hown, ha4, ha2, hsz, hbel⟩ := hrel
    have HMe := Lib.hid hMe
    clear hMe
    by_cases hlt : k < S.length
    · obtain ⟨b, off, rfl, hbs, hc⟩ := hr.open (by intro h; rw [List.map_eq_nil_iff] at h; subst h; simp at hlt)
      have hcell : wr.cell? ⟨b, off + k, none⟩ = some (.int .i64 S[k]) := by rw [hbel.cell (p := ⟨b, off + k, none⟩) hbs]; exact hc k _ (by simp [hlt])
      obtain ⟨X, hX⟩ : ∃ X : Nat, S[k] = (X : Int) := ⟨(S[k]).toNat, by have := HB.out S[k] (List.getElem_mem hlt); omega⟩
      have hXb := HB.out S[k] (List.getElem_mem hlt)
      have hstep := minOf_take HS.out k hlt
      rw [← HMe.out, hX, Int.toNat_natCast] at hstep
      have HTK : Hid (S.take (k + 1) = S.take k ++ [(X : Int)]) := Lib.hid (by rw [List.take_add_one, List.getElem?_eq_getElem hlt, hX]; rfl)
      rw [hX] at hcell hXb
      have HP := Lib.hid hstep
      have hx1 : 1 ≤ X := by omega
      have hx6 : X ≤ 60 := by omega
      have cw := impl_with (sumB (S.take k)) (sumB (S.take k ++ [(X : Int)])) X wr hx1 hx6 (fun j h1 _ => sumB_snoc_small h1) (fun j h1 _ => sumB_snoc hx1 h1)
      have HD := Lib.hid (tab_differs (G := S.take k) hx1 hx6)
      have hll : ∀ f : Nat → Bool, ((List.range 260).map f).length = 260 := fun f => by simp
      have HLL := Lib.hid hll
      clear hc hstep hX hll
      go_wp2_with (first
        | (refine wpList_load_arr 62 (.tmp 4) (w.heap.size + 1) (tabB (sumB (S.take k)) 260) (.array 260 4) rfl rfl rfl ha4 undT rfl (sizeTl _) ?_))
      refine cw.mono ?_
      rintro e w2 ⟨rfl, hbw⟩
      have ha4 := ha4.below hbw
      have ha2 := ha2.below hbw
      have hown := owns_below hown hbw
      have hbel := hbel.trans (hbw.mono hbel.size)
      have hsz := Nat.le_trans hsz hbw.size
      clear cw hcell hbw
      have ha8 := Arr.new w2 62 (tabB (fun _ => false) 260)
      have ha4n := ha4.alloc (.cells (tabB (fun _ => false) 260).toArray 62)
      have ha2n := ha2.alloc (.cells (tabB (fun _ => false) 260).toArray 62)
      have hownn := hown.alloc (.cells (tabB (fun _ => false) 260).toArray 62)
      have hbeln := hbel.alloc hbel.size (.cells (tabB (fun _ => false) 260).toArray 62)
      have hne8 := own_ne hown (g := w2.heap.size) (.inr (Nat.le_refl _))
      have hne4 := own_ne hown (g := w.heap.size + 1) (.inl (by omega))
      have hne2 := own_ne hown (g := w.heap.size) (.inl (by omega))
      clear ha4 ha2 hown hbel
      generalize hq : sumB (S.take k) X = q at *
      have HQ := Lib.hid hq
      clear hq
      cases q
      · have HMN : Hid (M ++ [(X : Int)] = (S.take (k + 1)).filter fun x => !sumB (S.filter fun y => decide (y < x)) x.toNat) := Lib.hid (by rw [HP.out]; rfl)
        go_wp2_with (first
          | (refine wpList_alloc_arr 62 (tabB (fun _ => false) 260) zeroT rfl rfl ?_)
          | (refine wpList_store_arr 62 (.tmp 8) (.tmp 18) w2.heap.size (tabB (fun _ => false) 260) (tabB (sumB (S.take k ++ [(X : Int)])) 260) rfl rfl rfl rfl ha8 (by rw [tabB_length, tabB_length]) (sizeTl _) (HT _).out ?_; intro w3 hb8 hg3 hz3; have hs3 : w2.heap.size + 1 ≤ w3.heap.size := (by rw [hz3]; simp); clear hz3; have hb4 := ha4n.grown hg3 (by simp; omega))
          | (refine wpList_load_arr 62 (.tmp 8) w2.heap.size (tabB (sumB (S.take k ++ [(X : Int)])) 260) (.array 260 4) rfl rfl rfl hb8 undT rfl (sizeTl _) ?_)
          | (refine wpList_load_arr 62 (.tmp 4) (w.heap.size + 1) (tabB (sumB (S.take k)) 260) (.array 260 4) rfl rfl rfl hb4 undT rfl (sizeTl _) ?_)
          | (refine wpList_neq_bools 62 62 4 260 (.tmp 19) (.tmp 20) ((List.range 260).map (sumB (S.take k ++ [(X : Int)]))) ((List.range 260).map (sumB (S.take k))) rfl rfl rfl rfl undT undBool sizeBool guardT (HLL.out _) (HLL.out _) ?_; rw [HD.out])
          | (refine wpList_load_arr 62 (.tmp 8) w2.heap.size (tabB (sumB (S.take k ++ [(X : Int)])) 260) (.array 260 4) rfl rfl rfl hb8 undT rfl (sizeTl _) ?_)
          | (refine wpList_store_arr 62 (.tmp 4) (.tmp 22) (w.heap.size + 1) (tabB (sumB (S.take k)) 260) (tabB (sumB (S.take k ++ [(X : Int)])) 260) rfl rfl rfl rfl hb4 (by rw [tabB_length, tabB_length]) (sizeTl _) (HT _).out ?_; intro w5 hc4 hg5 hz5
             have hs5 : w3.heap.size ≤ w5.heap.size := Nat.le_of_eq hz5.symm
             clear hz5
             have hown5 := (hownn.kept hg3 hne8).kept hg5 hne4
             have hc2 := (ha2n.grown hg3 (by simp; omega)).grown hg5 (by simp)
             have hbel5 := (hbeln.grown hg3 (by simp; omega) (fun k hk => by cases hk; omega)).grown hg5 (by omega) (fun k hk => by cases hk; omega))
          | (at_builtin; refine wpList_append_own _ rfl (.tmp 23) (.tmp 25) 24 rfl (w.heap.size + 2) 3 i0 (Value.int .i64 0) 1 8 Tryz.underlying24 hi hz0 hz1 hz2 rfl (by decide) _ _ _ rfl (hown5.alloc _) ⟨_, 0, none⟩ 1 1 [.int .i64 (X : Int)] rfl rfl (World.news_of_block (cs := #[.int .i64 (X : Int)]) (t := 3) (fr := (0, 0)) (heap_alloc_new _ _)) (by simp [Value.oneCell']) (by unfold maxLen; omega) (by omega) (by simp; omega) ?_; intro v6 w6 hown6 hg6 _))
        have hs5' := hc4.lt
        have hd4 := (hc4.alloc (.cells #[.int .i64 (X : Int)] 3)).grown hg6 (own_row hne4)
        have hd2 := (hc2.alloc (.cells #[.int .i64 (X : Int)] 3)).grown hg6 (own_row hne2)
        have hbel6 := (hbel5.alloc hbel5.size (.cells #[.int .i64 (X : Int)] 3)).grown hg6 (by simp; omega) (fun j hj => by have := (hown5.lt j hj).1; omega)
        have hs6 : w.heap.size + 2 ≤ w6.heap.size := by have := hg6.size; simp at this; omega
        rw [← HTK.out] at hd4
        have HO := Lib.hid hown6
        clear hown6 hg6 hown5
        go_roundw
        case rel => exact ⟨k + 1, M ++ [(X : Int)], by omega, by go_num, HMN.out, by rw [List.length_append, List.length_singleton]; omega, by rw [List.length_append, List.length_singleton, List.map_append]; exact HO.out, hd4, hd2, hs6, hbel6⟩
        case measure => simp [intOf]; omega
      · have HMN : Hid (M = (S.take (k + 1)).filter fun x => !sumB (S.filter fun y => decide (y < x)) x.toNat) := Lib.hid (by rw [HP.out]; simp)
        go_wp2_with (first
          | (refine wpList_alloc_arr 62 (tabB (fun _ => false) 260) zeroT rfl rfl ?_)
          | (refine wpList_store_arr 62 (.tmp 8) (.tmp 18) w2.heap.size (tabB (fun _ => false) 260) (tabB (sumB (S.take k ++ [(X : Int)])) 260) rfl rfl rfl rfl ha8 (by rw [tabB_length, tabB_length]) (sizeTl _) (HT _).out ?_; intro w3 hb8 hg3 hz3; have hs3 : w2.heap.size + 1 ≤ w3.heap.size := (by rw [hz3]; simp); clear hz3; have hb4 := ha4n.grown hg3 (by simp; omega))
          | (refine wpList_load_arr 62 (.tmp 8) w2.heap.size (tabB (sumB (S.take k ++ [(X : Int)])) 260) (.array 260 4) rfl rfl rfl hb8 undT rfl (sizeTl _) ?_)
          | (refine wpList_load_arr 62 (.tmp 4) (w.heap.size + 1) (tabB (sumB (S.take k)) 260) (.array 260 4) rfl rfl rfl hb4 undT rfl (sizeTl _) ?_)
          | (refine wpList_neq_bools 62 62 4 260 (.tmp 19) (.tmp 20) ((List.range 260).map (sumB (S.take k ++ [(X : Int)]))) ((List.range 260).map (sumB (S.take k))) rfl rfl rfl rfl undT undBool sizeBool guardT (HLL.out _) (HLL.out _) ?_; rw [HD.out]))
        have hown5 := hownn.kept hg3 hne8
        have hc2 := ha2n.grown hg3 (by simp; omega)
        have hbel5 := hbeln.grown hg3 (by simp; omega) (fun k hk => by cases hk; omega)
        have hE : tabB (sumB (S.take k)) 260 = tabB (sumB (S.take (k + 1))) 260 := by rw [HTK.out]; exact tabB_congr fun j _ => (sumB_idle HQ.out j).symm
        rw [hE] at hb4
        clear hE
        go_roundw
        case rel => exact ⟨k + 1, M, by omega, by go_num, HMN.out, by omega, hown5, hb4, hc2, by omega, hbel5⟩
        case measure => simp [intOf]; omega
    · obtain rfl : k = S.length := by omega
      rw [List.take_of_length_le (Nat.le_refl _)] at ha4
      have HE : Hid (minOf S = M) := Lib.hid (by rw [HMe.out, List.take_of_length_le (Nat.le_refl _)]; rfl)
      have hne2 := own_ne hown (g := w.heap.size) (.inl (by omega))
      clear hr
      go_wp2_with (first
        | (refine wpList_load_arr 62 (.tmp 4) (w.heap.size + 1) (tabB (sumB S) 260) (.array 260 4) rfl rfl rfl ha4 undT rfl (sizeTl _) ?_)
        | (refine wpList_store_arr 62 (.tmp 2) (.tmp 28) w.heap.size (tabB (fun _ => false) 260) (tabB (sumB S) 260) rfl rfl rfl rfl ha2 (by rw [tabB_length, tabB_length]) (sizeTl _) (HT _).out ?_; intro w3 hb2 hg3 hz3; clear hz3))
      have hb3 := hbel.grown hg3 hbel.size (fun k hk => by cases hk; exact Nat.le_refl _)
      have ho3 := hown.kept hg3 hne2
      exact bodyPost_ret (results_arr_tmp rfl _ _ w.heap.size (tabB (sumB S) 260) (.array 260 4) rfl hb2 undT rfl (sizeTl _)) rfl ⟨_, rfl, by rw [HE.out]; exact ownsBase ho3 (by omega), hb3⟩
end Go.Proofs.YtdjjagpecbflnaaGreatDoor
