/-
  CHAPTER 3: the program's contracts.
-/
import Derived.Test.YtnbnkjmellmmlaaCh3L

/-
  CONTRACTS of the program's chapter 3, first part: areListed, markFurther, with, has.
-/
namespace Go.Proofs.Ytnbnkjmellmmlaa
open Go Go.RowKit

/-- 1 to 20 numbers from 1 to M. -/
def fromToB (M : Int) (G : List Int) : Bool := G.all (fun x => inB x 1 M) && decide (1 ≤ G.length) && decide (G.length ≤ 20)
theorem fromToB_iff {M : Int} {G : List Int} : fromToB M G = true ↔ (∀ x ∈ G, 1 ≤ x ∧ x ≤ M) ∧ 1 ≤ G.length ∧ G.length ≤ 20 := by
  unfold fromToB
  rw [Bool.and_eq_true, Bool.and_eq_true, List.all_eq_true, decide_eq_true_eq, decide_eq_true_eq]
  constructor
  · rintro ⟨⟨h1, h2⟩, h3⟩
    exact ⟨fun x hx => inB_true (h1 x hx), h2, h3⟩
  · rintro ⟨h1, h2, h3⟩
    exact ⟨⟨fun x hx => inB_mk (h1 x hx).1 (h1 x hx).2, h2⟩, h3⟩
theorem fromToB_okG (G : List Int) : fromToB 60 G = okG G := rfl

set_option maxRecDepth 100000 in
set_option maxHeartbeats 400000 in
theorem impl_areFromOneTo (M : Int) (L : List Int) (a : Option Addr) (cap : Nat) (w : World) (hr : SlV w a (L.map (Value.int .i64))) (hb : L.length ≤ 1048576) :
    Calls Try.prog 72 #[.int .i64 M, .slice a L.length cap] w fun e w' => e = .returned (.bool (fromToB M L)) ∧ w' = w := by
  by_cases h0 : L.length = 0
  · have HR : Hid (fromToB M L = false) := Lib.hid (by rw [Bool.eq_false_iff]; intro h; have := (fromToB_iff.1 h).2.1; omega)
    have hi0 : ((L.length : Int) == 0) = true := by rw [h0]; rfl
    clear hr h0
    go_enter Try.func72, Try.ntmps72
    go_wp2_with fail
    go_ret
    exact ⟨by rw [HR.out]; rfl, rfl⟩
  · have hi0 : ((L.length : Int) == 0) = false := by rw [beq_eq_false_iff_ne]; omega
    by_cases h20 : L.length ≤ 20
    · have hi1 : ¬ 20 < (L.length : Int) := by omega
      go_enter Try.func72, Try.ntmps72
      go_wp2_with fail
      go_loop [17] (fun i => ∃ k : Nat, k ≤ L.length ∧ i = .int .i64 (k : Int) ∧ ∀ x ∈ L.take k, 1 ≤ x ∧ x ≤ M) (fun i => L.length - (intOf i).toNat)
      case atStart => exact ⟨0, Nat.zero_le _, rfl, by simp⟩
      case round =>
        obtain ⟨k, hk, rfl, hal⟩ := hrel
        have HA := Lib.hid hal
        clear hal
        by_cases hlt : k < L.length
        · obtain ⟨b, off, rfl, hbs, hc⟩ := hr.open (by intro h; rw [List.map_eq_nil_iff] at h; subst h; simp at hlt)
          have hcell : w.cell? ⟨b, off + k, none⟩ = some (.int .i64 L[k]) := hc k _ (by simp [hlt])
          have HT : Hid (L.take (k + 1) = L.take k ++ [L[k]]) := Lib.hid (by rw [List.take_add_one, List.getElem?_eq_getElem hlt]; rfl)
          have HM := Lib.hid (List.getElem_mem hlt)
          clear hc hr
          by_cases hlo : L[k] < 1
          · have HR : Hid (fromToB M L = false) := Lib.hid (by rw [Bool.eq_false_iff]; intro h; have := ((fromToB_iff.1 h).1 _ HM.out).1; omega)
            clear HM HT
            generalize L[k] = x at *
            go_wp2_with fail
            go_ret
            exact ⟨by rw [HR.out]; rfl, rfl⟩
          · by_cases hhi : M < L[k]
            · have HR : Hid (fromToB M L = false) := Lib.hid (by rw [Bool.eq_false_iff]; intro h; have := ((fromToB_iff.1 h).1 _ HM.out).2; omega)
              clear HM HT
              generalize L[k] = x at *
              go_wp2_with fail
              go_ret
              exact ⟨by rw [HR.out]; rfl, rfl⟩
            · have HN : Hid (∀ x ∈ L.take (k + 1), 1 ≤ x ∧ x ≤ M) := Lib.hid (by
                rw [HT.out]
                intro x hx
                rcases List.mem_append.1 hx with hx | hx
                · exact HA.out x hx
                · obtain rfl := List.mem_singleton.1 hx
                  omega)
              clear HM HT
              generalize L[k] = x at *
              go_wp2_with fail
              go_round
              case rel => exact ⟨k + 1, by omega, by go_num, HN.out⟩
              case measure => simp [intOf]; omega
        · obtain rfl : k = L.length := by omega
          have HR : Hid (fromToB M L = true) := Lib.hid (fromToB_iff.2 ⟨by have := HA.out; rwa [List.take_of_length_le (Nat.le_refl _)] at this, by omega, h20⟩)
          clear hr
          go_wp2_with fail
          go_ret
          exact ⟨by rw [HR.out]; rfl, rfl⟩
    · have HR : Hid (fromToB M L = false) := Lib.hid (by rw [Bool.eq_false_iff]; intro h; have := (fromToB_iff.1 h).2.2; omega)
      have hi1 : 20 < (L.length : Int) := by omega
      clear hr h0 h20
      go_enter Try.func72, Try.ntmps72
      go_wp2_with fail
      go_ret
      exact ⟨by rw [HR.out]; rfl, rfl⟩
set_option maxRecDepth 100000 in
set_option maxHeartbeats 400000 in
theorem impl_areListed (L : List Int) (a : Option Addr) (cap : Nat) (w : World) (hr : SlV w a (L.map (Value.int .i64))) (hb : L.length ≤ 1048576) :
    Calls Try.prog 52 #[.slice a L.length cap] w fun e w' => e = .returned (.bool (okG L)) ∧ w' = w := by
  have c1 := impl_areFromOneTo 60 L a cap w hr hb
  rw [fromToB_okG] at c1
  go_enter Try.func52, Try.ntmps52
  go_wp2_with fail
  refine c1.mono ?_
  rintro e w1 ⟨rfl, rfl⟩
  go_wp2_with fail
  go_ret
  exact ⟨rfl, rfl⟩

/-! ### Tables of bools -/
def tabB (f : Nat → Bool) (T : Nat) : List Value := ((List.range T).map f).map Value.bool
theorem tabB_length (f : Nat → Bool) (T : Nat) : (tabB f T).length = T := by simp [tabB]
theorem tabB_get (f : Nat → Bool) (T j : Nat) (hj : j < T) : (tabB f T)[j]? = some (.bool (f j)) := by
  unfold tabB
  rw [List.getElem?_map, List.getElem?_map, List.getElem?_range hj]; rfl
theorem tabB_congr {f g : Nat → Bool} {T : Nat} (h : ∀ j, j < T → f j = g j) : tabB f T = tabB g T := by
  unfold tabB
  rw [List.map_map, List.map_map]
  exact List.map_congr_left fun j hj => by have := h j (List.mem_range.1 hj); simp [this]
theorem tabB_set {f : Nat → Bool} {T m : Nat} {b : Bool} : (tabB f T).set m (.bool b) = tabB (fun j => if j = m then b else f j) T := by
  apply List.ext_getElem?
  intro j
  by_cases hj : j < T
  · rw [List.getElem?_set, tabB_get (fun j => if j = m then b else f j) T j hj]
    by_cases e : m = j
    · subst e; rw [if_pos rfl, if_pos (by rw [tabB_length]; exact hj), if_pos rfl]
    · rw [if_neg e, tabB_get f T j hj, if_neg (Ne.symm e)]
  · rw [List.getElem?_eq_none (by rw [List.length_set, tabB_length]; omega), List.getElem?_eq_none (by rw [tabB_length]; omega)]
theorem tabB_one (f : Nat → Bool) (T : Nat) : ∀ v ∈ tabB f T, v.oneCell' = true := by
  intro v hv
  obtain ⟨b, -, rfl⟩ := List.mem_map.1 hv
  rfl

set_option maxRecDepth 100000 in
set_option maxHeartbeats 800000 in
/-- markFurther: the cells from x on, each with the help of those before it. -/
theorem impl_markFurther (f F : Nat → Bool) (g t T n cap x : Nat) (w : World) (ha : Arr w g t (tabB f T)) (hn : n ≤ T) (hT : T ≤ 100000) (hx : 1 ≤ x)
    (hlo : ∀ j, j < x → j < T → F j = f j) (hmid : ∀ j, x ≤ j → j < n → F j = (f j || F (j - x))) (hhi : ∀ j, n ≤ j → j < T → F j = f j) :
    Calls Try.prog 54 #[.slice (some ⟨g, 0, none⟩) n cap, .int .i64 (x : Int)] w fun e w' => e = .returned (.tuple #[]) ∧ Arr w' g t (tabB F T) ∧ w.grownBy w' (some g) := by
  have HLO := Lib.hid hlo
  have HMID := Lib.hid hmid
  have HHI := Lib.hid hhi
  have HA := Lib.hid ha
  clear hlo hmid hhi ha
  go_enter Try.func54, Try.ntmps54
  go_wp2_with fail
  go_loopw [4] (fun i wr => ∃ m : Nat, x ≤ m ∧ i = .int .i64 (m : Int) ∧ Arr wr g t (tabB (fun j => if j < m then F j else f j) T) ∧ w.grownBy wr (some g)) (fun i _ => n - (intOf i).toNat)
  case atStart =>
    refine ⟨x, Nat.le_refl _, rfl, ?_, grownBy_refl _ _⟩
    rw [tabB_congr (g := f)]
    · exact HA.out
    · intro j hj
      by_cases h : j < x
      · rw [if_pos h]; exact HLO.out j h hj
      · rw [if_neg h]
  case round =>
    clear HA
    obtain ⟨m, hm, rfl, ha, hg⟩ := hrel
    have HA := Lib.hid ha
    have HG := Lib.hid hg
    by_cases hlt : m < n
    · have hmb2 : m ≤ 100060 := by omega
      have hc1 : wr.cell? ⟨g, m, none⟩ = some (.bool (f m)) := by rw [ha.cell, tabB_get _ T m (by omega), if_neg (by omega)]
      have hf1 : wr.frozen? ⟨g, m, none⟩ = false := ha.frozen m
      obtain ⟨j, hj⟩ : ∃ j : Nat, j = m - x := ⟨_, rfl⟩
      have hc2 : wr.cell? ⟨g, j, none⟩ = some (.bool (F j)) := by rw [ha.cell, tabB_get _ T j (by omega), if_pos (by omega)]
      have hF := HMID.out m hm hlt
      rw [← hj] at hF
      have hst := ha.set m (.bool (F m))
      rw [tabB_set, tabB_congr (g := fun j => if j < m + 1 then F j else f j) (fun j _ => by
        by_cases e : j = m
        · subst e; rw [if_pos rfl, if_pos (by omega)]
        · rw [if_neg e]
          by_cases e2 : j < m
          · rw [if_pos e2, if_pos (by omega)]
          · rw [if_neg e2, if_neg (by omega)])] at hst
      have hgs := grownBy_trans hg (grownBy_setCell wr g m (.bool (F m)))
      have HST := Lib.hid hst
      have HGS := Lib.hid hgs
      have hw1 : IntKind.i64.wrap ((m : Int) - (x : Int)) = (j : Int) := by rw [IntWalk.i64_in _ (by omega)]; omega
      have hj0 : (0 : Int) ≤ (j : Int) := by omega
      have hj1 : (j : Int) < (n : Int) := by omega
      have hm0 : (0 : Int) ≤ (m : Int) := by omega
      have hm1 : (m : Int) < (n : Int) := by omega
      clear ha hg hst hgs hj
      cases hfm : f m
      · rw [hfm] at hc1 hF
        rw [Bool.false_or] at hF
        rw [hF] at HST HGS
        clear hfm hF
        generalize F j = b at *
        go_wp2_with fail
        go_roundw
        case rel => exact ⟨m + 1, by omega, by go_num, HST.out, HGS.out⟩
        case measure => simp [intOf]; omega
      · rw [hfm] at hc1 hF
        rw [Bool.true_or] at hF
        rw [hF] at HST HGS
        clear hfm hF
        go_wp2_with fail
        go_roundw
        case rel => exact ⟨m + 1, by omega, by go_num, HST.out, HGS.out⟩
        case measure => simp [intOf]; omega
    · have hE : tabB (fun j => if j < m then F j else f j) T = tabB F T := tabB_congr fun j hj => by
        by_cases e : j < m
        · rw [if_pos e]
        · rw [if_neg e]; exact (HHI.out j (by omega) hj).symm
      rw [hE] at ha
      have HA2 := Lib.hid ha
      have hnl : ¬ (m : Int) < (n : Int) := by omega
      clear ha hg hE HA
      go_wp2_with fail
      exact bodyPost_end (results_none rfl _ _ _) rfl ⟨rfl, HA2.out, HG.out⟩
end Go.Proofs.Ytnbnkjmellmmlaa

/-
  CONTRACTS of the program's chapter 3, second part: with, has, tableOfSums.
-/
namespace Go.Proofs.Ytnbnkjmellmmlaa
open Go Go.RowKit

abbrev tyT : Nat := 50
theorem zeroT : (Try.prog.info? 50).map (·.zero) = some (some (.agg (tabB (fun _ => false) 260).toArray)) := by kernel_rfl
theorem sizeT : (Try.prog.info? 50).map (·.size) = some 260 := by kernel_rfl
theorem sizeTl (f : Nat → Bool) : (Try.prog.info? 50).map (·.size) = some (tabB f 260).length := by rw [tabB_length]; exact sizeT
theorem undT : Try.prog.underlying 50 = some (.array 260 4) := by kernel_rfl

theorem size_alloc (w : World) (o : Obj) : (w.alloc o).heap.size = w.heap.size + 1 := by simp

set_option maxRecDepth 100000 in
set_option maxHeartbeats 800000 in
theorem impl_with (f F : Nat → Bool) (x : Nat) (w : World) (hx : 1 ≤ x) (hlo : ∀ j, j < x → j < 260 → F j = f j) (hmid : ∀ j, x ≤ j → j < 260 → F j = (f j || F (j - x))) :
    Calls Try.prog 77 #[.agg (tabB f 260).toArray, .int .i64 (x : Int)] w fun e w' => e = .returned (.agg (tabB F 260).toArray) ∧ Below w.heap.size w w' := by
  have hA0 := Arr.new w 50 (tabB f 260)
  have hA1 := hA0.alloc (.cells (tabB (fun _ => false) 260).toArray 50)
  have hB1 := Arr.new (w.alloc (.cells (tabB f 260).toArray 50)) 50 (tabB (fun _ => false) 260)
  have hb0 : Below w.heap.size w ((w.alloc (.cells (tabB f 260).toArray 50)).alloc (.cells (tabB (fun _ => false) 260).toArray 50)) := ((Below.refl _ _).alloc (Nat.le_refl _) _).alloc (by simp) _
  have cm := impl_markFurther f F w.heap.size 50 260 260 260 x _ hA1 (Nat.le_refl _) (by omega) hx hlo hmid (fun j h1 h2 => by omega)
  have hT := Lib.hid (tabB_one F 260)
  clear hlo hmid hA0 hA1
  go_enter Try.func77, Try.ntmps77
  go_wp2_with (first
    | (refine wpList_box_arr 50 (.tmp 0) (tabB f 260) rfl rfl rfl ?_)
    | (refine wpList_alloc_arr 50 (tabB (fun _ => false) 260) zeroT rfl rfl ?_))
  refine cm.mono ?_
  rintro e w2 ⟨rfl, ha2, hg2⟩
  have hB2 := hB1.grown hg2 (by simp)
  simp only [size_alloc] at hB2
  have hb2 := hb0.grown hg2 (by simp; omega) (fun k hk => by cases hk; exact Nat.le_refl _)
  clear cm hB1 hb0 hg2
  go_wp2_with (first
    | (refine wpList_load_arr 50 (.tmp 2) w.heap.size (tabB F 260) (.array 260 4) rfl rfl rfl ha2 undT rfl (sizeTl F) ?_)
    | (refine wpList_store_arr 50 (.tmp 4) (.tmp 8) (w.heap.size + 1) (tabB (fun _ => false) 260) (tabB F 260) rfl rfl rfl rfl hB2 (by rw [tabB_length, tabB_length]) (sizeTl F) hT.out ?_; intro w3 ha3 hg3 hz3))
  have hb3 := hb2.grown hg3 hb2.size (fun k hk => by cases hk; omega)
  exact bodyPost_ret (results_arr rfl _ _ (w.heap.size + 1) (tabB F 260) (.array 260 4) rfl ha3 undT rfl (sizeTl F)) rfl ⟨rfl, hb3⟩

theorem guardT : Try.prog.eqGuardType Try.prog.depth 50 = false := by kernel_rfl
theorem sizeBool (w : World) : (sizeOf 4).run Try.prog w = .ok 1 w := by kernel_rfl
theorem undBool : Try.prog.underlying 4 = some .bool := by kernel_rfl
theorem builtT : Try.prog.built 50 [(0, .bool true)] = some (tabB (fun j => j == 0) 260).toArray := by kernel_rfl
theorem sum_nil_tab (T : Nat) : tabB (fun j => j == 0) T = tabB (sumB []) T := tabB_congr fun j _ => by
  cases j with
  | zero => rw [sumB_zero]; rfl
  | succ j => rw [sumB_false.2 fun h => by have := isSum_nil h; omega]; rfl
/-- The table of more numbers, compared. -/
theorem tab_differs {G : List Int} {x : Nat} (_hx : 1 ≤ x) : (!(((List.range 260).map (sumB (G ++ [(x : Int)]))) == ((List.range 260).map (sumB G)))) = !(!decide (x < 260) || sumB G x) := by
  by_cases hx6 : x < 260
  · rw [decide_eq_true hx6, Bool.not_true, Bool.false_or]
    cases h : sumB G x
    · rw [Bool.not_eq_eq_eq_not, Bool.not_not, beq_eq_false_iff_ne]
      intro e
      have h1 := congrArg (fun l => l[x]?) e
      simp only [List.getElem?_map, List.getElem?_range hx6, Option.map_some, Option.some.injEq] at h1
      rw [sumB_own, h] at h1
      cases h1
    · rw [Bool.not_eq_eq_eq_not, Bool.not_not, beq_iff_eq]
      exact List.map_congr_left fun j _ => sumB_idle h j
  · rw [decide_eq_false hx6, Bool.not_false, Bool.true_or, Bool.not_eq_eq_eq_not, Bool.not_not, beq_iff_eq]
    exact List.map_congr_left fun j hj => by have := List.mem_range.1 hj; exact sumB_snoc_small (by omega)

/-- Those of S below 260 that are no sums of lesser ones. -/
noncomputable def keptF (S : List Int) (x : Int) : Bool := decide (x < 260) && !sumB (S.filter fun y => decide (y < x)) x.toNat
noncomputable def keptL (S : List Int) : List Int := S.filter (keptF S)
theorem keptL_small {S : List Int} (h : ∀ x ∈ S, x < 260) : keptL S = minOf S := by
  unfold keptL minOf
  exact List.filter_congr fun x hx => by unfold keptF; rw [decide_eq_true (h x hx), Bool.true_and]
theorem keptL_take {S : List Int} (hS : Asc S) (k : Nat) (hk : k < S.length) {X : Nat} (hX : S[k] = (X : Int)) : (S.take (k + 1)).filter (keptF S)
    = (S.take k).filter (keptF S) ++ (if (!decide (X < 260) || sumB (S.take k) X) then [] else [(X : Int)]) := by
  rw [List.take_add_one, List.getElem?_eq_getElem hk, List.filter_append]
  congr 1
  show List.filter _ [S[k]] = _
  have e : keptF S S[k] = !(!decide (X < 260) || sumB (S.take k) X) := by
    unfold keptF
    rw [← take_lesser hS k hk, hX, Int.toNat_natCast]
    by_cases h : X < 260
    · rw [decide_eq_true h, decide_eq_true (by omega)]; simp
    · rw [decide_eq_false h, decide_eq_false (by omega)]; simp
  rw [List.filter_cons, e, hX]
  cases (!decide (X < 260) || sumB (S.take k) X) <;> rfl
theorem kept_idle {G : List Int} {x : Nat} (h : (!decide (x < 260) || sumB G x) = true) (j : Nat) (hj : j < 260) : sumB (G ++ [(x : Int)]) j = sumB G j := by
  rw [Bool.or_eq_true, Bool.not_eq_true', decide_eq_false_iff_not] at h
  rcases h with h | h
  · exact sumB_snoc_small (by omega)
  · exact sumB_idle h j

/-- A call made the table of the sums of S below 260, and the list of those of S that it kept. -/
def TabPostK (S : List Int) (w : World) (e : Ending) (w' : World) : Prop :=
  ∃ v, e = .returned (.tuple #[.agg (tabB (sumB S) 260).toArray, v]) ∧ w'.ownsRow w.heap.size 3 1 v (keptL S).length ((keptL S).map (Value.int .i64)) ∧ Below w.heap.size w w'
/-- A call made the table of the sums of S, and the list of those of S that are no sums of others. -/
def TabPost (S : List Int) (w : World) (e : Ending) (w' : World) : Prop :=
  ∃ v, e = .returned (.tuple #[.agg (tabB (sumB S) 260).toArray, v]) ∧ w'.ownsRow w.heap.size 3 1 v (minOf S).length ((minOf S).map (Value.int .i64)) ∧ Below w.heap.size w w'

theorem own_ne {w : World} {base : Nat} {e : TypeId} {v : Value} {n : Nat} {xs : List Value} (h : w.ownsRow base e 1 v n xs) {g : Nat} (hg : g < base ∨ w.heap.size ≤ g) : v.ownBlock = none ∨ v.ownBlock ≠ some g := by
  right
  intro e
  have := h.lt g e
  omega

theorem own_row {v : Value} {g : Nat} (h : v.ownBlock = none ∨ v.ownBlock ≠ some g) : some g ≠ v.ownBlock := by
  rcases h with h | h
  · rw [h]; simp
  · exact fun e => h e.symm

set_option maxRecDepth 100000 in
set_option maxHeartbeats 1600000 in
theorem impl_tableOfSums_any (S : List Int) (a : Option Addr) (cap : Nat) (w : World) (hr : SlV w a (S.map (Value.int .i64))) (hS : Asc S) (hb : ∀ x ∈ S, 1 ≤ x) (hl : S.length ≤ 1000) :
    Calls Try.prog 63 #[.slice a S.length cap] w (TabPostK S w) := by
  obtain ⟨i0, hi, hz0, hz1, hz2⟩ := info_parts infoIntL
  have hA2 := Arr.new w 50 (tabB (fun _ => false) 260)
  have hA2' := hA2.alloc (.cells (tabB (fun _ => false) 260).toArray 50)
  have hA4 := Arr.new (w.alloc (.cells (tabB (fun _ => false) 260).toArray 50)) 50 (tabB (fun _ => false) 260)
  have hb0 : Below w.heap.size w ((w.alloc (.cells (tabB (fun _ => false) 260).toArray 50)).alloc (.cells (tabB (fun _ => false) 260).toArray 50)) := ((Below.refl _ _).alloc (Nat.le_refl _) _).alloc (by simp) _
  have hsz0 : ((w.alloc (.cells (tabB (fun _ => false) 260).toArray 50)).alloc (.cells (tabB (fun _ => false) 260).toArray 50)).heap.size = w.heap.size + 2 := by simp
  have HS := Lib.hid hS
  have HB := Lib.hid hb
  have HT := fun f => Lib.hid (tabB_one f 260)
  clear hS hb hA2
  go_enter Try.func63, Try.ntmps63
  go_wp2_with (first
    | (refine wpList_alloc_arr 50 (tabB (fun _ => false) 260) zeroT rfl rfl ?_)
    | (refine wpList_build_arr 50 _ (tabB (fun j => j == 0) 260) rfl rfl (by simpa [Act.eval] using builtT) ?_)
    | (refine wpList_store_arr 50 (.tmp 4) (.tmp 9) _ (tabB (fun _ => false) 260) (tabB (fun j => j == 0) 260) rfl rfl rfl rfl hA4 (by rw [tabB_length, tabB_length]) (sizeTl _) (HT _).out ?_; intro w1 ha4 hg1 hz1'))
  rw [size_alloc] at ha4 hg1
  have ha2 := hA2'.grown hg1 (by simp)
  have hb1 := hb0.grown hg1 (by omega) (fun k hk => by cases hk; omega)
  rw [sum_nil_tab] at ha4
  clear hA2' hA4 hb0 hg1
  rw [hsz0] at hz1'
  go_loopw [5, 12] (fun v i wr => ∃ (k : Nat) (M : List Int), k ≤ S.length ∧ i = .int .i64 (k : Int) ∧ M = (S.take k).filter (keptF S) ∧ M.length ≤ k ∧
      wr.ownsRow (w.heap.size + 2) 3 1 v M.length (M.map (Value.int .i64)) ∧ Arr wr (w.heap.size + 1) 50 (tabB (sumB (S.take k)) 260) ∧ Arr wr w.heap.size 50 (tabB (fun _ => false) 260) ∧ w.heap.size + 2 ≤ wr.heap.size ∧ Below w.heap.size w wr) (fun _ i _ => S.length - (intOf i).toNat)
  case atStart => exact ⟨0, [], Nat.zero_le _, rfl, by simp, by simp, World.ownsRow_nil _ _ _ _, ha4, ha2, by omega, hb1⟩
  case round =>
    clear ha4 ha2 hb1 hz1' hsz0
    obtain ⟨k, M, hk, rfl, hMe, hMk, hown, ha4, ha2, hsz, hbel⟩ := hrel
    have HMe := Lib.hid hMe
    clear hMe
    by_cases hlt : k < S.length
    · obtain ⟨b, off, rfl, hbs, hc⟩ := hr.open (by intro h; rw [List.map_eq_nil_iff] at h; subst h; simp at hlt)
      have hcell : wr.cell? ⟨b, off + k, none⟩ = some (.int .i64 S[k]) := by rw [hbel.cell (p := ⟨b, off + k, none⟩) hbs]; exact hc k _ (by simp [hlt])
      obtain ⟨X, hX⟩ : ∃ X : Nat, S[k] = (X : Int) := ⟨(S[k]).toNat, by have := HB.out S[k] (List.getElem_mem hlt); omega⟩
      have hXb := HB.out S[k] (List.getElem_mem hlt)
      have hstep := keptL_take HS.out k hlt hX
      rw [← HMe.out] at hstep
      have HTK : Hid (S.take (k + 1) = S.take k ++ [(X : Int)]) := Lib.hid (by rw [List.take_add_one, List.getElem?_eq_getElem hlt, hX]; rfl)
      rw [hX] at hcell hXb
      have HP := Lib.hid hstep
      have hx1 : 1 ≤ X := by omega
      have cw := impl_with (sumB (S.take k)) (sumB (S.take k ++ [(X : Int)])) X wr hx1 (fun j h1 _ => sumB_snoc_small h1) (fun j h1 _ => sumB_snoc hx1 h1)
      have HD := Lib.hid (tab_differs (G := S.take k) hx1)
      have hll : ∀ f : Nat → Bool, ((List.range 260).map f).length = 260 := fun f => by simp
      have HLL := Lib.hid hll
      clear hc hstep hX hll
      go_wp2_with (first
        | (refine wpList_load_arr 50 (.tmp 4) (w.heap.size + 1) (tabB (sumB (S.take k)) 260) (.array 260 4) rfl rfl rfl ha4 undT rfl (sizeTl _) ?_))
      refine cw.mono ?_
      rintro e w2 ⟨rfl, hbw⟩
      have ha4 := ha4.below hbw
      have ha2 := ha2.below hbw
      have hown := owns_below hown hbw
      have hbel := hbel.trans (hbw.mono hbel.size)
      have hsz := Nat.le_trans hsz hbw.size
      clear cw hcell hbw
      have ha8 := Arr.new w2 50 (tabB (fun _ => false) 260)
      have ha4n := ha4.alloc (.cells (tabB (fun _ => false) 260).toArray 50)
      have ha2n := ha2.alloc (.cells (tabB (fun _ => false) 260).toArray 50)
      have hownn := hown.alloc (.cells (tabB (fun _ => false) 260).toArray 50)
      have hbeln := hbel.alloc hbel.size (.cells (tabB (fun _ => false) 260).toArray 50)
      have hne8 := own_ne hown (g := w2.heap.size) (.inr (Nat.le_refl _))
      have hne4 := own_ne hown (g := w.heap.size + 1) (.inl (by omega))
      have hne2 := own_ne hown (g := w.heap.size) (.inl (by omega))
      clear ha4 ha2 hown hbel
      generalize hq : (!decide (X < 260) || sumB (S.take k) X) = q at *
      have HQ := Lib.hid hq
      clear hq
      cases q
      · have HMN : Hid (M ++ [(X : Int)] = (S.take (k + 1)).filter (keptF S)) := Lib.hid (by rw [HP.out]; rfl)
        go_wp2_with (first
          | (refine wpList_alloc_arr 50 (tabB (fun _ => false) 260) zeroT rfl rfl ?_)
          | (refine wpList_store_arr 50 (.tmp 8) (.tmp 18) w2.heap.size (tabB (fun _ => false) 260) (tabB (sumB (S.take k ++ [(X : Int)])) 260) rfl rfl rfl rfl ha8 (by rw [tabB_length, tabB_length]) (sizeTl _) (HT _).out ?_; intro w3 hb8 hg3 hz3; have hs3 : w2.heap.size + 1 ≤ w3.heap.size := (by rw [hz3]; simp); clear hz3; have hb4 := ha4n.grown hg3 (by simp; omega))
          | (refine wpList_load_arr 50 (.tmp 8) w2.heap.size (tabB (sumB (S.take k ++ [(X : Int)])) 260) (.array 260 4) rfl rfl rfl hb8 undT rfl (sizeTl _) ?_)
          | (refine wpList_load_arr 50 (.tmp 4) (w.heap.size + 1) (tabB (sumB (S.take k)) 260) (.array 260 4) rfl rfl rfl hb4 undT rfl (sizeTl _) ?_)
          | (refine wpList_neq_bools 50 50 4 260 (.tmp 19) (.tmp 20) ((List.range 260).map (sumB (S.take k ++ [(X : Int)]))) ((List.range 260).map (sumB (S.take k))) rfl rfl rfl rfl undT undBool sizeBool guardT (HLL.out _) (HLL.out _) ?_; rw [HD.out])
          | (refine wpList_load_arr 50 (.tmp 8) w2.heap.size (tabB (sumB (S.take k ++ [(X : Int)])) 260) (.array 260 4) rfl rfl rfl hb8 undT rfl (sizeTl _) ?_)
          | (refine wpList_store_arr 50 (.tmp 4) (.tmp 22) (w.heap.size + 1) (tabB (sumB (S.take k)) 260) (tabB (sumB (S.take k ++ [(X : Int)])) 260) rfl rfl rfl rfl hb4 (by rw [tabB_length, tabB_length]) (sizeTl _) (HT _).out ?_; intro w5 hc4 hg5 hz5
             have hs5 : w3.heap.size ≤ w5.heap.size := Nat.le_of_eq hz5.symm
             clear hz5
             have hown5 := (hownn.kept hg3 hne8).kept hg5 hne4
             have hc2 := (ha2n.grown hg3 (by simp; omega)).grown hg5 (by simp)
             have hbel5 := (hbeln.grown hg3 (by simp; omega) (fun k hk => by cases hk; omega)).grown hg5 (by omega) (fun k hk => by cases hk; omega))
          | (at_builtin; refine wpList_append_own _ rfl (.tmp 23) (.tmp 25) 22 rfl (w.heap.size + 2) 3 i0 (Value.int .i64 0) 1 8 Try.underlying22 hi hz0 hz1 hz2 rfl (by decide) _ _ _ rfl (hown5.alloc _) ⟨_, 0, none⟩ 1 1 [.int .i64 (X : Int)] rfl rfl (World.news_of_block (cs := #[.int .i64 (X : Int)]) (t := 3) (fr := (0, 0)) (heap_alloc_new _ _)) (by simp [Value.oneCell']) (by unfold maxLen; omega) (by omega) (by simp; omega) ?_; intro v6 w6 hown6 hg6 _))
        have hs5' := hc4.lt
        have hd4 := (hc4.alloc (.cells #[.int .i64 (X : Int)] 3)).grown hg6 (own_row hne4)
        have hd2 := (hc2.alloc (.cells #[.int .i64 (X : Int)] 3)).grown hg6 (own_row hne2)
        have hbel6 := (hbel5.alloc hbel5.size (.cells #[.int .i64 (X : Int)] 3)).grown hg6 (by simp; omega) (fun j hj => by have := (hown5.lt j hj).1; omega)
        have hs6 : w.heap.size + 2 ≤ w6.heap.size := by have := hg6.size; simp at this; omega
        rw [← HTK.out] at hd4
        have HO := Lib.hid hown6
        clear hown6 hg6 hown5
        go_roundw
        case rel => exact ⟨k + 1, M ++ [(X : Int)], by omega, by go_num, HMN.out, by rw [List.length_append, List.length_singleton]; omega, by rw [List.length_append, List.length_singleton, List.map_append]; exact HO.out, hd4, hd2, hs6, hbel6⟩
        case measure => simp [intOf]; omega
      · have HMN : Hid (M = (S.take (k + 1)).filter (keptF S)) := Lib.hid (by rw [HP.out]; simp)
        go_wp2_with (first
          | (refine wpList_alloc_arr 50 (tabB (fun _ => false) 260) zeroT rfl rfl ?_)
          | (refine wpList_store_arr 50 (.tmp 8) (.tmp 18) w2.heap.size (tabB (fun _ => false) 260) (tabB (sumB (S.take k ++ [(X : Int)])) 260) rfl rfl rfl rfl ha8 (by rw [tabB_length, tabB_length]) (sizeTl _) (HT _).out ?_; intro w3 hb8 hg3 hz3; have hs3 : w2.heap.size + 1 ≤ w3.heap.size := (by rw [hz3]; simp); clear hz3; have hb4 := ha4n.grown hg3 (by simp; omega))
          | (refine wpList_load_arr 50 (.tmp 8) w2.heap.size (tabB (sumB (S.take k ++ [(X : Int)])) 260) (.array 260 4) rfl rfl rfl hb8 undT rfl (sizeTl _) ?_)
          | (refine wpList_load_arr 50 (.tmp 4) (w.heap.size + 1) (tabB (sumB (S.take k)) 260) (.array 260 4) rfl rfl rfl hb4 undT rfl (sizeTl _) ?_)
          | (refine wpList_neq_bools 50 50 4 260 (.tmp 19) (.tmp 20) ((List.range 260).map (sumB (S.take k ++ [(X : Int)]))) ((List.range 260).map (sumB (S.take k))) rfl rfl rfl rfl undT undBool sizeBool guardT (HLL.out _) (HLL.out _) ?_; rw [HD.out]))
        have hown5 := hownn.kept hg3 hne8
        have hc2 := ha2n.grown hg3 (by simp; omega)
        have hbel5 := hbeln.grown hg3 (by simp; omega) (fun k hk => by cases hk; omega)
        have hE : tabB (sumB (S.take k)) 260 = tabB (sumB (S.take (k + 1))) 260 := by rw [HTK.out]; exact tabB_congr fun j hj => (kept_idle HQ.out j hj).symm
        rw [hE] at hb4
        clear hE
        go_roundw
        case rel => exact ⟨k + 1, M, by omega, by go_num, HMN.out, by omega, hown5, hb4, hc2, by omega, hbel5⟩
        case measure => simp [intOf]; omega
    · obtain rfl : k = S.length := by omega
      rw [List.take_of_length_le (Nat.le_refl _)] at ha4
      have HE : Hid (keptL S = M) := Lib.hid (by rw [HMe.out, List.take_of_length_le (Nat.le_refl _)]; rfl)
      have hne2 := own_ne hown (g := w.heap.size) (.inl (by omega))
      clear hr
      go_wp2_with (first
        | (refine wpList_load_arr 50 (.tmp 4) (w.heap.size + 1) (tabB (sumB S) 260) (.array 260 4) rfl rfl rfl ha4 undT rfl (sizeTl _) ?_)
        | (refine wpList_store_arr 50 (.tmp 2) (.tmp 28) w.heap.size (tabB (fun _ => false) 260) (tabB (sumB S) 260) rfl rfl rfl rfl ha2 (by rw [tabB_length, tabB_length]) (sizeTl _) (HT _).out ?_; intro w3 hb2 hg3 hz3; clear hz3))
      have hb3 := hbel.grown hg3 hbel.size (fun k hk => by cases hk; exact Nat.le_refl _)
      have ho3 := hown.kept hg3 hne2
      exact bodyPost_ret (results_arr_tmp rfl _ _ w.heap.size (tabB (sumB S) 260) (.array 260 4) rfl hb2 undT rfl (sizeTl _)) rfl ⟨_, rfl, by rw [HE.out]; exact ownsBase ho3 (by omega), hb3⟩

theorem impl_tableOfSums (S : List Int) (a : Option Addr) (cap : Nat) (w : World) (hr : SlV w a (S.map (Value.int .i64))) (hS : Asc S) (hb : ∀ x ∈ S, 1 ≤ x ∧ x ≤ 60) (hl : S.length ≤ 20) :
    Calls Try.prog 63 #[.slice a S.length cap] w (TabPost S w) := by
  have h := impl_tableOfSums_any S a cap w hr hS (fun x hx => (hb x hx).1) (by omega)
  unfold TabPostK at h
  rw [keptL_small fun x hx => by have := hb x hx; omega] at h
  exact h
end Go.Proofs.Ytnbnkjmellmmlaa

/-
  CONTRACTS of the program's chapter 3, third part: slices.Index, Contains, Equal at its types; has; elementsOf; IsSemigroup, Contains, MultiplicityOf, DimensionOf, EqualSemigroup.
-/
namespace Go.Proofs.Ytnbnkjmellmmlaa
open Go Go.RowKit

/-- All of the first n are true. -/
def allT (f : Nat → Bool) (n : Nat) : Bool := (List.range n).all f
theorem allT_true {f : Nat → Bool} {n : Nat} : allT f n = true ↔ ∀ j, j < n → f j = true := by
  unfold allT; rw [List.all_eq_true]
  exact ⟨fun h j hj => h j (List.mem_range.2 hj), fun h j hj => h j (List.mem_range.1 hj)⟩
def IdxPost (f : Nat → Bool) (n : Nat) (w : World) (e : Ending) (w' : World) : Prop :=
  ∃ r : Int, e = .returned (.int .i64 r) ∧ decide (0 ≤ r) = !(allT f n) ∧ w' = w

set_option maxRecDepth 100000 in
set_option maxHeartbeats 400000 in
theorem impl_idxFalse (f : Nat → Bool) (g o n cap : Nat) (w : World) (hc : ∀ j, j < n → w.cell? ⟨g, o + j, none⟩ = some (.bool (f j))) (hn : n ≤ 100000) :
    Calls Try.prog 83 #[.slice (some ⟨g, o, none⟩) n cap, .bool false] w (IdxPost f n w) := by
  have HC := Lib.hid hc
  clear hc
  go_enter Try.func83, Try.ntmps83
  go_wp2_with fail
  go_loop [8] (fun i => ∃ k : Nat, k ≤ n ∧ i = .int .i64 (k : Int) ∧ ∀ j, j < k → f j = true) (fun i => n - (intOf i).toNat)
  case atStart => exact ⟨0, Nat.zero_le _, rfl, fun j h => by omega⟩
  case round =>
    obtain ⟨k, hk, rfl, hal⟩ := hrel
    have HA := Lib.hid hal
    clear hal
    by_cases hlt : k < n
    · have hcell := HC.out k hlt
      have hk0 : (0 : Int) ≤ (k : Int) := by omega
      have hk1 : (k : Int) < (n : Int) := by omega
      cases hf : f k
      · have HR : Hid (decide ((0 : Int) ≤ (k : Int)) = !(allT f n)) := Lib.hid (by
          rw [decide_eq_true hk0]
          cases h : allT f n
          · rfl
          · have := allT_true.1 h k hlt; rw [hf] at this; cases this)
        rw [hf] at hcell
        clear hf
        go_wp2_with fail
        go_ret
        exact ⟨_, rfl, HR.out, rfl⟩
      · have HN : Hid (∀ j, j < k + 1 → f j = true) := Lib.hid (fun j h => by
          by_cases e : j < k
          · exact HA.out j e
          · obtain rfl : j = k := by omega
            exact hf)
        rw [hf] at hcell
        clear hf
        go_wp2_with fail
        go_round
        case rel => exact ⟨k + 1, by omega, by go_num, HN.out⟩
        case measure => simp [intOf]; omega
    · obtain rfl : k = n := by omega
      have HR : Hid (decide ((0 : Int) ≤ -1) = !(allT f k)) := Lib.hid (by rw [allT_true.2 HA.out]; rfl)
      have hnl : ¬ (k : Int) < (k : Int) := by omega
      go_wp2_with fail
      go_ret
      exact ⟨-1, rfl, HR.out, rfl⟩

set_option maxRecDepth 100000 in
set_option maxHeartbeats 400000 in
theorem impl_hasFalse (f : Nat → Bool) (g o n cap : Nat) (w : World) (hc : ∀ j, j < n → w.cell? ⟨g, o + j, none⟩ = some (.bool (f j))) (hn : n ≤ 100000) :
    Calls Try.prog 76 #[.slice (some ⟨g, o, none⟩) n cap, .bool false] w fun e w' => e = .returned (.bool (!(allT f n))) ∧ w' = w := by
  have c := impl_idxFalse f g o n cap w hc hn
  clear hc
  generalize hq : (!(allT f n)) = q at *
  go_enter Try.func76, Try.ntmps76
  go_wp2_with fail
  refine c.mono ?_
  rintro e w' ⟨r, rfl, hr, rfl⟩
  rw [hq] at hr
  have HR := Lib.hid hr
  clear hr c hq
  go_wp2_with fail
  go_ret
  exact ⟨by rw [← HR.out]; simp, rfl⟩



set_option maxRecDepth 100000 in
set_option maxHeartbeats 400000 in
theorem impl_has (f : Nat → Bool) (n : Int) (q : Bool) (w : World) (hq : q = if 200 ≤ n then true else if 0 ≤ n then f n.toNat else false) :
    Calls Try.prog 62 #[.agg (tabB f 260).toArray, .int .i64 n] w fun e w' => e = .returned (.bool q) ∧ Below w.heap.size w w' := by
  have hA := Arr.new w 50 (tabB f 260)
  have hb0 := box_below w (.cells (tabB f 260).toArray 50)
  by_cases h2 : 200 ≤ n
  · obtain rfl : q = true := by rw [hq, if_pos h2]
    clear hq hA
    go_enter Try.func62, Try.ntmps62
    go_wp2_with (refine wpList_box_arr 50 (.tmp 0) (tabB f 260) rfl rfl rfl ?_)
    go_ret
    exact ⟨rfl, hb0⟩
  · by_cases h0 : 0 ≤ n
    · obtain ⟨N, rfl⟩ := Int.eq_ofNat_of_zero_le h0
      obtain rfl : q = f N := by rw [hq, if_neg h2, if_pos h0]; simp
      have hc := (hA.cell N).trans (tabB_get f 260 N (by omega))
      have hlt : (N : Int) < 260 := by omega
      clear hq hA
      generalize f N = b at *
      go_enter Try.func62, Try.ntmps62
      go_wp2_with (refine wpList_box_arr 50 (.tmp 0) (tabB f 260) rfl rfl rfl ?_)
      go_ret
      exact ⟨rfl, hb0⟩
    · obtain rfl : q = false := by rw [hq, if_neg h2, if_neg h0]
      clear hq hA
      go_enter Try.func62, Try.ntmps62
      go_wp2_with (refine wpList_box_arr 50 (.tmp 0) (tabB f 260) rfl rfl rfl ?_)
      go_ret
      exact ⟨rfl, hb0⟩
end Go.Proofs.Ytnbnkjmellmmlaa

/-
  CONTRACTS of the program's chapter 3, fourth part: elementsOf, IsSemigroup, Contains, MultiplicityOf, DimensionOf, FromGens.
-/
namespace Go.Proofs.Ytnbnkjmellmmlaa
open Go Go.RowKit

noncomputable def elF (G : List Int) : Nat → Bool := fun j => isSgB G && sumB G j
theorem elF_no {G : List Int} (h : isSgB G = false) : tabB (elF G) 260 = tabB (fun _ => false) 260 := tabB_congr fun j _ => by unfold elF; rw [h]; rfl
theorem elF_yes {G : List Int} (h : isSgB G = true) : tabB (elF G) 260 = tabB (sumB G) 260 := tabB_congr fun j _ => by unfold elF; rw [h]; rfl
/-- A call made the table of the elements of G, all false where G is no semigroup. -/
def ElPost (G : List Int) (w : World) (e : Ending) (w' : World) : Prop :=
  e = .returned (.tuple #[.agg (tabB (elF G) 260).toArray, .bool (isSgB G)]) ∧ Below w.heap.size w w'
theorem builtZ : Try.prog.built 50 [] = some (tabB (fun _ => false) 260).toArray := by kernel_rfl

set_option maxRecDepth 100000 in
set_option maxHeartbeats 1600000 in
theorem impl_elementsOf (G : List Int) (a : Option Addr) (cap : Nat) (w : World) (hr : SlV w a (G.map (Value.int .i64))) (hb : G.length ≤ 1048576) :
    Calls Try.prog 60 #[.agg #[.slice a G.length cap]] w (ElPost G w) := by
  have hbA := box_below w (.cells #[.slice a G.length cap] 30)
  have hb0 := hbA.alloc (o := .cells (tabB (fun _ => false) 260).toArray 50) hbA.size
  obtain ⟨W, hW⟩ : ∃ W, W = (w.alloc (.cells #[.slice a G.length cap] 30)).alloc (.cells (tabB (fun _ => false) 260).toArray 50) := ⟨_, rfl⟩
  have hA1 : Arr W (w.heap.size + 1) 50 (tabB (fun _ => false) 260) := by
    have := Arr.new (w.alloc (.cells #[.slice a G.length cap] 30)) 50 (tabB (fun _ => false) 260)
    rw [size_alloc] at this; rw [hW]; exact this
  have hc0 : W.cell? ⟨w.heap.size, 0, none⟩ = some (.slice a G.length cap) := by
    rw [hW]; exact ((Arr.new w 30 [.slice a G.length cap]).alloc _).cell 0
  have hWs : w.heap.size + 2 ≤ W.heap.size := by rw [hW]; simp
  rw [← hW] at hb0
  have HW := Lib.hid hW
  have hrW := hr.below hb0
  have HT := fun f => Lib.hid (tabB_one f 260)
  have hmax : G.length ≤ maxLen := by unfold maxLen; omega
  have cl := impl_areListed G a cap W hrW hb
  clear hbA hW
  by_cases h12 : G.length ≤ 12
  · have hi12 : ¬ 12 < (G.length : Int) := by omega
    cases hok : okG G
    · have hs : isSgB G = false := by unfold isSgB; rw [hok]; rfl
      rw [hok] at cl
      have HR := Lib.hid hs
      have HE := Lib.hid (elF_no hs)
      clear hok hs hr hrW
      go_enter Try.func60, Try.ntmps60
      go_wp2_with (refine wpList_alloc_arr 50 (tabB (fun _ => false) 260) zeroT rfl rfl ?_)
      rw [← HW.out]
      refine cl.mono ?_
      rintro e w' ⟨rfl, rfl⟩
      go_wp2_with (first
        | (refine wpList_build_arr 50 _ (tabB (fun _ => false) 260) rfl rfl (by simpa [Act.eval] using builtZ) ?_)
        | (refine wpList_store_arr 50 (.tmp 2) (.tmp 22) (w.heap.size + 1) (tabB (fun _ => false) 260) (tabB (fun _ => false) 260) rfl rfl rfl rfl hA1 rfl (sizeTl _) (HT _).out ?_; intro w3 hB1 hg3 hz3; clear hz3))
      have hb3 := hb0.grown hg3 hb0.size (fun k hk => by cases hk; omega)
      exact bodyPost_ret (results_arr_tmp rfl _ _ (w.heap.size + 1) (tabB (fun _ => false) 260) (.array 260 4) rfl hB1 undT rfl (sizeTl _)) rfl ⟨by rw [HR.out, HE.out]; rfl, hb3⟩
    · rw [hok] at cl
      have ca := impl_IsAscending G a cap W hrW hmax
      cases hasc : ascB G
      · have hs : isSgB G = false := by unfold isSgB; rw [hasc]; simp
        rw [hasc] at ca
        have HR := Lib.hid hs
        have HE := Lib.hid (elF_no hs)
        clear hok hasc hs hr hrW
        go_enter Try.func60, Try.ntmps60
        go_wp2_with (refine wpList_alloc_arr 50 (tabB (fun _ => false) 260) zeroT rfl rfl ?_)
        rw [← HW.out]
        refine cl.mono ?_
        rintro e w' ⟨rfl, rfl⟩
        go_wp2_with fail
        refine ca.mono ?_
        rintro e w1 ⟨rfl, hb1⟩
        have hA1 := hA1.below hb1
        have hz1 := hb1.size
        have hb0 := hb0.trans (hb1.mono hb0.size)
        clear ca hb1 hc0
        go_wp2_with (first
          | (refine wpList_build_arr 50 _ (tabB (fun _ => false) 260) rfl rfl (by simpa [Act.eval] using builtZ) ?_)
          | (refine wpList_store_arr 50 (.tmp 2) (.tmp 22) (w.heap.size + 1) (tabB (fun _ => false) 260) (tabB (fun _ => false) 260) rfl rfl rfl rfl hA1 rfl (sizeTl _) (HT _).out ?_; intro w3 hB1 hg3 hz3; clear hz3))
        have hb3 := hb0.grown hg3 hb0.size (fun k hk => by cases hk; omega)
        exact bodyPost_ret (results_arr_tmp rfl _ _ (w.heap.size + 1) (tabB (fun _ => false) 260) (.array 260 4) rfl hB1 undT rfl (sizeTl _)) rfl ⟨by rw [HR.out, HE.out]; rfl, hb3⟩
      · rw [hasc] at ca
        have hA := asc_of_ascB hasc
        obtain ⟨hG, hl1, hl2⟩ := okG_iff.1 hok
        have HWAY := Lib.hid (isSgB_way hok h12 hasc)
        have hml := minOf_length_le G
        have HSL := Lib.hid hrW
        have ct := fun w' (h : SlV w' a (G.map (Value.int .i64))) => impl_tableOfSums G a cap w' h hA hG hl2
        clear hok hasc hA hG hr hrW
        go_enter Try.func60, Try.ntmps60
        go_wp2_with (refine wpList_alloc_arr 50 (tabB (fun _ => false) 260) zeroT rfl rfl ?_)
        rw [← HW.out]
        refine cl.mono ?_
        rintro e w' ⟨rfl, rfl⟩
        go_wp2_with fail
        refine ca.mono ?_
        rintro e w1 ⟨rfl, hb1⟩
        have hA1 := hA1.below hb1
        have hc1 := (hb1.cell (p := ⟨w.heap.size, 0, none⟩) (by show w.heap.size < _; omega)).trans hc0
        have hz1 := Nat.le_trans hWs hb1.size
        have hx := ct w1 (HSL.out.below hb1)
        have hb1 := hb0.trans (hb1.mono hb0.size)
        clear cl ca ct hc0 hb0 hWs
        go_wp2_with fail
        refine hx.mono ?_
        rintro e w2 ⟨v, rfl, ho, hb2⟩
        have hA1 := hA1.below hb2
        have hc2 := (hb2.cell (p := ⟨w.heap.size, 0, none⟩) (by show w.heap.size < _; omega)).trans hc1
        have hz2 := Nat.le_trans hz1 hb2.size
        have hb2 := hb1.trans (hb2.mono hb1.size)
        have hA1n := hA1.alloc (.cells (tabB (fun _ => false) 260).toArray 50)
        have hA4 := Arr.new w2 50 (tabB (fun _ => false) 260)
        have hc2n : (w2.alloc (.cells (tabB (fun _ => false) 260).toArray 50)).cell? ⟨w.heap.size, 0, none⟩ = some (.slice a G.length cap) := ((box_below w2 _).cell (p := ⟨w.heap.size, 0, none⟩) (by show w.heap.size < _; omega)).trans hc2
        have hb2n := hb2.alloc (o := .cells (tabB (fun _ => false) 260).toArray 50) hb2.size
        obtain ⟨av, kv, rfl, rX⟩ := row_open ho
        clear hx hc1 hb1 hz1 ho hA1 rX hc2 hb2
        by_cases hk : G.length ≤ (minOf G).length
        · have hkl : ¬ ((minOf G).length : Int) < (G.length : Int) := by omega
          have HK := Lib.hid hk
          clear hk
          go_wp2_with (first
            | (refine wpList_alloc_arr 50 (tabB (fun _ => false) 260) zeroT rfl rfl ?_)
            | (refine wpList_store_arr 50 (.tmp 4) (.tmp 27) w2.heap.size (tabB (fun _ => false) 260) (tabB (sumB G) 260) rfl rfl rfl rfl hA4 (by rw [tabB_length, tabB_length]) (sizeTl _) (HT _).out ?_; intro w3 hB4 hg3 hz3; have hs3 : w2.heap.size + 1 ≤ w3.heap.size := (by rw [hz3]; simp); clear hz3; have hc3 := hg3.cell hc2n (by simp; omega); have hB1 := hA1n.grown hg3 (by simp; omega)))
          have cc := impl_hasFalse (fun j => sumB G (200 + j)) w2.heap.size 200 60 60 w3 (fun j hj => (hB4.cell (200 + j)).trans (tabB_get _ 260 _ (by omega))) (by omega)
          have hb3 := hb2n.grown hg3 (by simp; omega) (fun k hk => by cases hk; omega)
          clear hA1n hc2n hb2n hA4
          cases hall : allT (fun j => sumB G (200 + j)) 60
          · have hs : isSgB G = false := by
              rw [Bool.eq_false_iff]; intro h
              have h2 := (HWAY.out.1 h).2
              have : allT (fun j => sumB G (200 + j)) 60 = true := allT_true.2 fun j hj => h2 (200 + j) (by omega) (by omega)
              rw [hall] at this; cases this
            have HR := Lib.hid hs
            have HE := Lib.hid (elF_no hs)
            rw [hall] at cc
            clear hall hs hg3
            refine cc.mono ?_
            rintro e w' ⟨rfl, rfl⟩
            go_wp2_with (first
              | (refine wpList_build_arr 50 _ (tabB (fun _ => false) 260) rfl rfl (by simpa [Act.eval] using builtZ) ?_)
              | (refine wpList_store_arr 50 (.tmp 2) (.tmp 39) (w.heap.size + 1) (tabB (fun _ => false) 260) (tabB (fun _ => false) 260) rfl rfl rfl rfl hB1 rfl (sizeTl _) (HT _).out ?_; intro w4 hD1 hg4 hz4; clear hz4))
            have hb4 := hb3.grown hg4 (by omega) (fun k hk => by cases hk; omega)
            exact bodyPost_ret (results_arr_tmp rfl _ _ (w.heap.size + 1) (tabB (fun _ => false) 260) (.array 260 4) rfl hD1 undT rfl (sizeTl _)) rfl ⟨by rw [HR.out, HE.out]; rfl, hb4⟩
          · have hs : isSgB G = true := HWAY.out.2 ⟨HK.out, fun n h1 h2 => by have := allT_true.1 hall (n - 200) (by omega); simpa [show 200 + (n - 200) = n by omega] using this⟩
            have HR := Lib.hid hs
            have HE := Lib.hid (elF_yes hs)
            rw [hall] at cc
            clear hall hs hg3
            refine cc.mono ?_
            rintro e w' ⟨rfl, rfl⟩
            go_wp2_with (first
              | (refine wpList_load_arr 50 (.tmp 4) w2.heap.size (tabB (sumB G) 260) (.array 260 4) rfl rfl rfl hB4 undT rfl (sizeTl _) ?_)
              | (refine wpList_store_arr 50 (.tmp 2) (.tmp 40) (w.heap.size + 1) (tabB (fun _ => false) 260) (tabB (sumB G) 260) rfl rfl rfl rfl hB1 (by rw [tabB_length, tabB_length]) (sizeTl _) (HT _).out ?_; intro w4 hD1 hg4 hz4; clear hz4))
            have hb4 := hb3.grown hg4 (by omega) (fun k hk => by cases hk; omega)
            exact bodyPost_ret (results_arr_tmp rfl _ _ (w.heap.size + 1) (tabB (sumB G) 260) (.array 260 4) rfl hD1 undT rfl (sizeTl _)) rfl ⟨by rw [HR.out, HE.out]; rfl, hb4⟩
        · have hkl : ((minOf G).length : Int) < (G.length : Int) := by omega
          have hs : isSgB G = false := by rw [Bool.eq_false_iff]; intro h; exact hk (HWAY.out.1 h).1
          have HR := Lib.hid hs
          have HE := Lib.hid (elF_no hs)
          clear hs hk
          go_wp2_with (first
            | (refine wpList_alloc_arr 50 (tabB (fun _ => false) 260) zeroT rfl rfl ?_)
            | (refine wpList_store_arr 50 (.tmp 4) (.tmp 27) w2.heap.size (tabB (fun _ => false) 260) (tabB (sumB G) 260) rfl rfl rfl rfl hA4 (by rw [tabB_length, tabB_length]) (sizeTl _) (HT _).out ?_; intro w3 hB4 hg3 hz3; have hs3 : w2.heap.size + 1 ≤ w3.heap.size := (by rw [hz3]; simp); clear hz3; have hc3 := hg3.cell hc2n (by simp; omega); have hB1 := hA1n.grown hg3 (by simp; omega))
            | (refine wpList_build_arr 50 _ (tabB (fun _ => false) 260) rfl rfl (by simpa [Act.eval] using builtZ) ?_)
            | (refine wpList_store_arr 50 (.tmp 2) (.tmp 39) (w.heap.size + 1) (tabB (fun _ => false) 260) (tabB (fun _ => false) 260) rfl rfl rfl rfl hB1 rfl (sizeTl _) (HT _).out ?_; intro w4 hD1 hg4 hz4; clear hz4))
          have hb3 := hb2n.grown hg3 (by simp; omega) (fun k hk => by cases hk; omega)
          have hb4 := hb3.grown hg4 (by omega) (fun k hk => by cases hk; omega)
          exact bodyPost_ret (results_arr_tmp rfl _ _ (w.heap.size + 1) (tabB (fun _ => false) 260) (.array 260 4) rfl hD1 undT rfl (sizeTl _)) rfl ⟨by rw [HR.out, HE.out]; rfl, hb4⟩
  · have hi12 : 12 < (G.length : Int) := by omega
    have hs : isSgB G = false := by unfold isSgB; rw [decide_eq_false h12]; simp
    have HR := Lib.hid hs
    have HE := Lib.hid (elF_no hs)
    clear cl h12 hs hr hrW
    have hW := HW.out
    rw [hW] at hA1 hb0
    clear hW HW hc0 hWs
    go_enter Try.func60, Try.ntmps60
    go_wp2_with (first
      | (refine wpList_alloc_arr 50 (tabB (fun _ => false) 260) zeroT rfl rfl ?_)
      | (refine wpList_build_arr 50 _ (tabB (fun _ => false) 260) rfl rfl (by simpa [Act.eval] using builtZ) ?_)
      | (refine wpList_store_arr 50 (.tmp 2) (.tmp 22) (w.heap.size + 1) (tabB (fun _ => false) 260) (tabB (fun _ => false) 260) rfl rfl rfl rfl hA1 rfl (sizeTl _) (HT _).out ?_; intro w3 hB1 hg3 hz3; clear hz3))
    have hb3 := hb0.grown hg3 hb0.size (fun k hk => by cases hk; omega)
    exact bodyPost_ret (results_arr_tmp rfl _ _ (w.heap.size + 1) (tabB (fun _ => false) 260) (.array 260 4) rfl hB1 undT rfl (sizeTl _)) rfl ⟨by rw [HR.out, HE.out]; rfl, hb3⟩
end Go.Proofs.Ytnbnkjmellmmlaa

/-
  CONTRACTS of the program's chapter 3, last part: IsSemigroup, Contains, MultiplicityOf, DimensionOf, FromGens, Generates.
-/
namespace Go.Proofs.Ytnbnkjmellmmlaa
open Go Go.RowKit

set_option maxRecDepth 100000 in
set_option maxHeartbeats 800000 in
theorem impl_IsSemigroup (G : List Int) (a : Option Addr) (cap : Nat) (w : World) (hr : SlV w a (G.map (Value.int .i64))) (hb : G.length ≤ 1048576) :
    Calls Try.prog 22 #[.agg #[.slice a G.length cap]] w fun e w' => e = .returned (.bool (isSgB G)) ∧ Below w.heap.size w w' := by
  have hb0 := box_below w (.cells #[.slice a G.length cap] 30)
  have hc0 := box_cell w (.slice a G.length cap)
  have c1 := impl_elementsOf G a cap _ (hr.below hb0) hb
  have HT := fun f => Lib.hid (tabB_one f 260)
  clear hr
  unfold ElPost at c1
  generalize isSgB G = q at *
  go_enter Try.func22, Try.ntmps22
  go_wp2_with fail
  refine c1.mono ?_
  rintro e w1 ⟨rfl, hb1⟩
  have hbz := hb0.trans (hb1.mono hb0.size)
  have hA := Arr.new w1 50 (tabB (fun _ => false) 260)
  have hbz2 := hbz.alloc (o := .cells (tabB (fun _ => false) 260).toArray 50) hbz.size
  clear c1 hc0 hb1 hb0
  go_wp2_with (first
    | (refine wpList_alloc_arr 50 (tabB (fun _ => false) 260) zeroT rfl rfl ?_)
    | (refine wpList_store_arr 50 (.tmp 3) (.tmp 8) w1.heap.size (tabB (fun _ => false) 260) (tabB (elF G) 260) rfl rfl rfl rfl hA (by rw [tabB_length, tabB_length]) (sizeTl _) (HT _).out ?_; intro w3 hB hg3 hz3; clear hz3))
  have hb3 := hbz2.grown hg3 hbz2.size (fun k hk => by cases hk; exact hbz.size)
  go_ret
  exact ⟨rfl, hb3⟩

theorem hasN_way (G : List Int) (n : Int) : isSgB G = true → hasN G n = if 200 ≤ n then true else if 0 ≤ n then elF G n.toNat else false := by
  intro hs
  split
  · next h => exact hasN_far hs h
  · split
    · next h => unfold hasN elF; rw [decide_eq_true h, Bool.and_true]
    · next h => exact hasN_neg (by omega)

set_option maxRecDepth 100000 in
set_option maxHeartbeats 800000 in
theorem impl_Contains (G : List Int) (n : Int) (a : Option Addr) (cap : Nat) (w : World) (hr : SlV w a (G.map (Value.int .i64))) (hb : G.length ≤ 1048576) :
    Calls Try.prog 25 #[.agg #[.slice a G.length cap], .int .i64 n] w fun e w' => e = .returned (.bool (hasN G n)) ∧ Below w.heap.size w w' := by
  have hb0 := box_below w (.cells #[.slice a G.length cap] 30)
  have hc0 := box_cell w (.slice a G.length cap)
  have c1 := impl_elementsOf G a cap _ (hr.below hb0) hb
  have HT := fun f => Lib.hid (tabB_one f 260)
  clear hr
  cases hs : isSgB G
  · have HR := Lib.hid (hasN_not hs n)
    unfold ElPost at c1
    rw [hs] at c1
    clear hs
    go_enter Try.func25, Try.ntmps25
    go_wp2_with fail
    refine c1.mono ?_
    rintro e w1 ⟨rfl, hb1⟩
    have hbz := hb0.trans (hb1.mono hb0.size)
    have hA := Arr.new w1 50 (tabB (fun _ => false) 260)
    have hbz2 := hbz.alloc (o := .cells (tabB (fun _ => false) 260).toArray 50) hbz.size
    clear c1 hc0 hb1 hb0
    go_wp2_with (first
      | (refine wpList_alloc_arr 50 (tabB (fun _ => false) 260) zeroT rfl rfl ?_)
      | (refine wpList_store_arr 50 (.tmp 5) (.tmp 10) w1.heap.size (tabB (fun _ => false) 260) (tabB (elF G) 260) rfl rfl rfl rfl hA (by rw [tabB_length, tabB_length]) (sizeTl _) (HT _).out ?_; intro w3 hB hg3 hz3; clear hz3))
    have hb3 := hbz2.grown hg3 hbz2.size (fun k hk => by cases hk; exact hbz.size)
    go_ret
    exact ⟨by rw [HR.out]; rfl, hb3⟩
  · have ch := fun w => impl_has (elF G) n (hasN G n) w (hasN_way G n hs)
    unfold ElPost at c1
    rw [hs] at c1
    clear hs
    generalize hasN G n = q at *
    go_enter Try.func25, Try.ntmps25
    go_wp2_with fail
    refine c1.mono ?_
    rintro e w1 ⟨rfl, hb1⟩
    have hbz := hb0.trans (hb1.mono hb0.size)
    have hA := Arr.new w1 50 (tabB (fun _ => false) 260)
    have hbz2 := hbz.alloc (o := .cells (tabB (fun _ => false) 260).toArray 50) hbz.size
    clear c1 hc0 hb1 hb0
    go_wp2_with (first
      | (refine wpList_alloc_arr 50 (tabB (fun _ => false) 260) zeroT rfl rfl ?_)
      | (refine wpList_store_arr 50 (.tmp 5) (.tmp 10) w1.heap.size (tabB (fun _ => false) 260) (tabB (elF G) 260) rfl rfl rfl rfl hA (by rw [tabB_length, tabB_length]) (sizeTl _) (HT _).out ?_; intro w3 hB hg3 hz3; clear hz3))
    refine wp_load_mid 50 (.tmp 5) rfl w1.heap.size 0 rfl (tabB (elF G) 260) (.array 260 4) hB.range undT rfl (sizeTl _) ?_
    go_wp2_with fail
    have hb3 := hbz2.grown hg3 hbz2.size (fun k hk => by cases hk; exact hbz.size)
    refine (ch _).mono ?_
    rintro e w4 ⟨rfl, hb4⟩
    have hbz4 := hb3.trans (hb4.mono hb3.size)
    go_wp2_with fail
    go_ret
    exact ⟨rfl, hbz4⟩

set_option maxRecDepth 100000 in
set_option maxHeartbeats 800000 in
theorem impl_MultiplicityOf (G : List Int) (a : Option Addr) (cap : Nat) (w : World) (hr : SlV w a (G.map (Value.int .i64))) (hb : G.length ≤ 1048576) :
    Calls Try.prog 32 #[.agg #[.slice a G.length cap]] w fun e w' => e = .returned (.int .i64 (multN G)) ∧ Below w.heap.size w w' := by
  have hb0 := box_below w (.cells #[.slice a G.length cap] 30)
  have hc0 := box_cell w (.slice a G.length cap)
  have hsz : w.heap.size < (w.alloc (.cells #[.slice a G.length cap] 30)).heap.size := by simp
  have c1 := impl_IsSemigroup G a cap (w.alloc (.cells #[.slice a G.length cap] 30)) (hr.below hb0) hb
  cases hs : isSgB G
  · have HR : Hid (multN G = 0) := Lib.hid (by unfold multN; rw [hs]; rfl)
    rw [hs] at c1
    clear hr hs
    go_enter Try.func32, Try.ntmps32
    go_wp2_with fail
    refine c1.mono ?_
    rintro e w1 ⟨rfl, hb1⟩
    have hbz := hb0.trans (hb1.mono (Nat.le_of_lt hsz))
    go_wp2_with fail
    go_ret
    exact ⟨by rw [HR.out]; rfl, hbz⟩
  · rw [hs] at c1
    obtain ⟨x, r, rfl⟩ : ∃ x r, G = x :: r := by
      cases G with
      | nil => rw [isSgB_nil] at hs; cases hs
      | cons x r => exact ⟨x, r, rfl⟩
    have HR : Hid (multN (x :: r) = x) := Lib.hid (by unfold multN; rw [hs]; rfl)
    obtain ⟨b, off, rfl, hbs, hc⟩ := hr.open (by simp)
    have hcell : w.cell? ⟨b, off, none⟩ = some (.int .i64 x) := by have := hc 0 (.int .i64 x) (by simp); simpa using this
    clear hr hs hc
    have hlen : 0 < (x :: r).length := by simp
    generalize (x :: r).length = L at *
    go_enter Try.func32, Try.ntmps32
    go_wp2_with fail
    refine c1.mono ?_
    rintro e w1 ⟨rfl, hb1⟩
    have hbz := hb0.trans (hb1.mono (Nat.le_of_lt hsz))
    have hc1 : w1.cell? ⟨w.heap.size, 0, none⟩ = some (.slice (some ⟨b, off, none⟩) L cap) := (hb1.cell (p := ⟨w.heap.size, 0, none⟩) hsz).trans hc0
    have hc2 : w1.cell? ⟨b, off, none⟩ = some (.int .i64 x) := (hbz.cell (p := ⟨b, off, none⟩) hbs).trans hcell
    clear c1 hc0 hb1 hb0 hcell
    go_wp2_with fail
    go_ret
    exact ⟨by rw [HR.out]; rfl, hbz⟩

set_option maxRecDepth 100000 in
set_option maxHeartbeats 800000 in
theorem impl_DimensionOf (G : List Int) (a : Option Addr) (cap : Nat) (w : World) (hr : SlV w a (G.map (Value.int .i64))) (hb : G.length ≤ 1048576) :
    Calls Try.prog 34 #[.agg #[.slice a G.length cap]] w fun e w' => e = .returned (.int .i64 (dimN G)) ∧ Below w.heap.size w w' := by
  have hb0 := box_below w (.cells #[.slice a G.length cap] 30)
  have hc0 := box_cell w (.slice a G.length cap)
  have hsz : w.heap.size < (w.alloc (.cells #[.slice a G.length cap] 30)).heap.size := by simp
  have c1 := impl_IsSemigroup G a cap (w.alloc (.cells #[.slice a G.length cap] 30)) (hr.below hb0) hb
  cases hs : isSgB G
  · have HR : Hid (dimN G = 0) := Lib.hid (by unfold dimN; rw [hs]; rfl)
    rw [hs] at c1
    clear hr hs
    go_enter Try.func34, Try.ntmps34
    go_wp2_with fail
    refine c1.mono ?_
    rintro e w1 ⟨rfl, hb1⟩
    have hbz := hb0.trans (hb1.mono (Nat.le_of_lt hsz))
    go_wp2_with fail
    go_ret
    exact ⟨by rw [HR.out]; rfl, hbz⟩
  · have HR : Hid (dimN G = (G.length : Int)) := Lib.hid (by unfold dimN; rw [hs]; rfl)
    rw [hs] at c1
    clear hr hs
    go_enter Try.func34, Try.ntmps34
    go_wp2_with fail
    refine c1.mono ?_
    rintro e w1 ⟨rfl, hb1⟩
    have hbz := hb0.trans (hb1.mono (Nat.le_of_lt hsz))
    have hc1 : w1.cell? ⟨w.heap.size, 0, none⟩ = some (.slice a G.length cap) := (hb1.cell (p := ⟨w.heap.size, 0, none⟩) hsz).trans hc0
    clear c1 hc0 hb1 hb0
    go_wp2_with fail
    go_ret
    exact ⟨by rw [HR.out]; rfl, hbz⟩

set_option maxRecDepth 100000 in
set_option maxHeartbeats 1600000 in
theorem impl_FromGens (L : List Int) (a : Option Addr) (cap : Nat) (w : World) (hr : SlW w a cap (L.map (Value.int .i64))) (hb : L.length ≤ 1048576) :
    Calls Try.prog 27 #[.slice a L.length cap] w (SgPost (fromL L) (fromB L) w) := by
  have hb0 := box_below w (.cells #[.slice none 0 0] 30)
  have hsz : w.heap.size < (w.alloc (.cells #[.slice none 0 0] 30)).heap.size := by simp
  have c1 := impl_areListed L a cap (w.alloc (.cells #[.slice none 0 0] 30)) (hr.sl.below hb0) hb
  cases hok : okG L
  · have hf : fromB L = false := by unfold fromB; rw [hok]; rfl
    have HR := Lib.hid hf
    rw [hok] at c1
    clear hr hok hf
    go_enter Try.func27, Try.ntmps27
    go_wp2_with fail
    refine c1.mono ?_
    rintro e w1 ⟨rfl, rfl⟩
    go_wp2_with fail
    exact bodyPost_ret (v := .tuple #[.agg #[.slice none 0 0], .bool false]) (by simp [results, Try.results27, go_sem]) rfl ⟨_, by rw [HR.out], by rw [fromL_no HR.out]; exact World.ownsRow_nil _ _ _ _, hb0⟩
  · rw [hok] at c1
    obtain ⟨hG, -, hl2⟩ := okG_iff.1 hok
    have c2 := impl_SortList L a cap (w.alloc (.cells #[.slice none 0 0] 30)) (hr.below hb0) hb
    have hsl := sortL_length_le L
    have ct := fun w' a' c' (h : SlV w' a' ((sortL L).map (Value.int .i64))) => impl_tableOfSums (sortL L) a' c' w' h (sortL_spec L).1 (fun x hx => hG x (((sortL_spec L).2 x).1 hx)) (by omega)
    have hml := minL_length_le L
    have hmm : Hid (minOf (sortL L) = minL L) := Lib.hid rfl
    have hc0 := box_cell w (.slice none 0 0)
    have hf0 : (w.alloc (.cells #[.slice none 0 0] 30)).frozen? ⟨w.heap.size, 0, none⟩ = false := (Arr.new w 30 [.slice none 0 0]).frozen 0
    have HF : Hid (fromB L = isSgB (minL L)) := Lib.hid (by unfold fromB; rw [hok]; rfl)
    have HT := fun f => Lib.hid (tabB_one f 260)
    clear hr hok hG
    go_enter Try.func27, Try.ntmps27
    go_wp2_with fail
    refine c1.mono ?_
    rintro e w1 ⟨rfl, rfl⟩
    go_wp2_with fail
    refine c2.mono ?_
    rintro e w1 ⟨v, rfl, ho, hb1⟩
    obtain ⟨a1, k1, rfl, rX⟩ := row_open ho
    have hx := ct w1 a1 k1 rX.slv
    have hc1 : w1.cell? ⟨w.heap.size, 0, none⟩ = some (.slice none 0 0) := (hb1.cell (p := ⟨w.heap.size, 0, none⟩) hsz).trans hc0
    have hf1 : w1.frozen? ⟨w.heap.size, 0, none⟩ = false := (hb1.frozen (p := ⟨w.heap.size, 0, none⟩) hsz).trans hf0
    have hz1 := Nat.lt_of_lt_of_le hsz hb1.size
    have hbz1 := hb0.trans (hb1.mono (Nat.le_of_lt hsz))
    clear c1 c2 ct ho rX hc0 hf0 hb1 hb0
    go_wp2_with fail
    refine hx.mono ?_
    rintro e w2 ⟨v, rfl, ho, hb2⟩
    rw [hmm.out] at ho
    obtain ⟨a2, k2, rfl, rX⟩ := row_open ho
    have hc2 : w2.cell? ⟨w.heap.size, 0, none⟩ = some (.slice none 0 0) := (hb2.cell (p := ⟨w.heap.size, 0, none⟩) hz1).trans hc1
    have hf2 : w2.frozen? ⟨w.heap.size, 0, none⟩ = false := (hb2.frozen (p := ⟨w.heap.size, 0, none⟩) hz1).trans hf1
    have hz2 := Nat.lt_of_lt_of_le hz1 hb2.size
    have hbz2 := hbz1.trans (hb2.mono hbz1.size)
    have hA := Arr.new w2 50 (tabB (fun _ => false) 260)
    have hba := box_below w2 (.cells (tabB (fun _ => false) 260).toArray 50)
    clear hx hc1 hf1 hbz1 hb2
    go_wp2_with (first
      | (refine wpList_alloc_arr 50 (tabB (fun _ => false) 260) zeroT rfl rfl ?_)
      | (refine wpList_store_arr 50 (.tmp 4) (.tmp 15) w2.heap.size (tabB (fun _ => false) 260) (tabB (sumB (sortL L)) 260) rfl rfl rfl rfl hA (by rw [tabB_length, tabB_length]) (sizeTl _) (HT _).out ?_; intro w3 hB hg3 hz3; clear hz3; have hbx := hba.grown hg3 hba.size (fun k hk => by cases hk; exact Nat.le_refl _)))
    have hc3 : w3.cell? ⟨w.heap.size, 0, none⟩ = some (.slice none 0 0) := (hbx.cell (p := ⟨w.heap.size, 0, none⟩) hz2).trans hc2
    have hf3 : w3.frozen? ⟨w.heap.size, 0, none⟩ = false := (hbx.frozen (p := ⟨w.heap.size, 0, none⟩) hz2).trans hf2
    have hz3 := Nat.lt_of_lt_of_le hz2 hbx.size
    have hbz3 := hbz2.trans (hbx.mono hbz2.size)
    have hbs := box_below w3 (.cells #[.slice a2 (minL L).length k2] 30)
    have hcs := box_cell w3 (.slice a2 (minL L).length k2)
    have hsl3 := (rX.slv.below hbx).below hbs
    have c3 := impl_IsSemigroup (minL L) a2 k2 (w3.alloc (.cells #[.slice a2 (minL L).length k2] 30)) hsl3 (by omega)
    have hzs : w3.heap.size < (w3.alloc (.cells #[.slice a2 (minL L).length k2] 30)).heap.size := by simp
    have hc12 : (w3.alloc (.cells #[.slice a2 (minL L).length k2] 30)).cell? ⟨w.heap.size, 0, none⟩ = some (.slice none 0 0) := (hbs.cell (p := ⟨w.heap.size, 0, none⟩) hz3).trans hc3
    have hf12 : (w3.alloc (.cells #[.slice a2 (minL L).length k2] 30)).frozen? ⟨w.heap.size, 0, none⟩ = false := (hbs.frozen (p := ⟨w.heap.size, 0, none⟩) hz3).trans hf3
    have hbzs := hbz3.trans (hbs.mono hbz3.size)
    have hzz := Nat.lt_trans hz3 hzs
    have HO := Lib.hid ho
    clear hmm hA hba hg3 hB hc2 hf2 hc3 hf3 rX hsl3 ho
    cases hs : isSgB (minL L)
    · have HR : Hid (fromB L = false) := Lib.hid (by rw [HF.out]; exact hs)
      rw [hs] at c3
      clear hs
      generalize (minL L).length = N at *
      refine c3.mono ?_
      rintro e w4 ⟨rfl, hb3⟩
      have hc3 : w4.cell? ⟨w.heap.size, 0, none⟩ = some (.slice none 0 0) := (hb3.cell (p := ⟨w.heap.size, 0, none⟩) hzz).trans hc12
      have hf3 : w4.frozen? ⟨w.heap.size, 0, none⟩ = false := (hb3.frozen (p := ⟨w.heap.size, 0, none⟩) hzz).trans hf12
      have hbz4 := hbzs.trans (hb3.mono hbzs.size)
      clear c3 hc12 hf12 hbs hcs hbx
      go_wp2_with fail
      have hcf := World.cell?_setCell_same w4 ⟨w.heap.size, 0, none⟩ (.slice none 0 0) hc3
      exact bodyPost_ret (v := .tuple #[.agg #[.slice none 0 0], .bool false]) (by simp [results, Try.results27, go_sem, hcf]) rfl ⟨_, by rw [HR.out], by rw [fromL_no HR.out]; exact World.ownsRow_nil _ _ _ _, hbz4.setCell (Nat.le_refl _) _⟩
    · have HR : Hid (fromB L = true) := Lib.hid (by rw [HF.out]; exact hs)
      rw [hs] at c3
      clear hs
      generalize hN : (minL L).length = N at *
      have HN := Lib.hid hN
      clear hN
      refine c3.mono ?_
      rintro e w4 ⟨rfl, hb3⟩
      have hc3 : w4.cell? ⟨w.heap.size, 0, none⟩ = some (.slice none 0 0) := (hb3.cell (p := ⟨w.heap.size, 0, none⟩) hzz).trans hc12
      have hf3 : w4.frozen? ⟨w.heap.size, 0, none⟩ = false := (hb3.frozen (p := ⟨w.heap.size, 0, none⟩) hzz).trans hf12
      have hcs4 : w4.cell? ⟨w3.heap.size, 0, none⟩ = some (.slice a2 N k2) := (hb3.cell (p := ⟨w3.heap.size, 0, none⟩) hzs).trans hcs
      have hbz4 := hbzs.trans (hb3.mono hbzs.size)
      clear c3 hc12 hf12 hcs
      go_wp2_with fail
      have hcf := World.cell?_setCell_same w4 ⟨w.heap.size, 0, none⟩ (.slice a2 N k2) hc3
      refine bodyPost_ret (v := .tuple #[.agg #[.slice a2 N k2], .bool true]) (by simp [results, Try.results27, go_sem, hcf]) rfl ⟨_, by rw [HR.out], ?_, hbz4.setCell (Nat.le_refl _) _⟩
      rw [fromL_yes HR.out]
      obtain rfl := HN.out
      have ho := HO.out
      refine ownsBase (row_kept ho fun j hj => ?_) (Nat.le_of_lt hz1)
      obtain ⟨hj1, hj2⟩ := ho.lt j hj
      rw [heap_setCell_other w4 ⟨w.heap.size, 0, none⟩ j _ (by show j ≠ w.heap.size; omega), hb3.block j (Nat.lt_trans (Nat.lt_of_lt_of_le hj2 hbx.size) hzs), hbs.block j (Nat.lt_of_lt_of_le hj2 hbx.size), hbx.block j hj2]

end Go.Proofs.Ytnbnkjmellmmlaa
