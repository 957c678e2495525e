/-
  CHAPTER 7 OF THE REFERENCE: FromCoordinates. (Own work.)
-/
import Derived.Test.YtgkkkmcgnpdchaaL21
import Derived.Test.YtgkkkmcgnpdchaaL23
namespace Go.Proofs.Ytgkkkmcgnpdchaa
open Go Go.RowKit

theorem zeroSg : (Try.prog.info? 26).map (·.zero) = some (some (.agg [Value.slice none 0 0].toArray)) := by kernel_rfl
theorem sizeSg : (Try.prog.info? 26).map (·.size) = some 1 := by kernel_rfl
theorem undSg : ∃ d, Try.prog.underlying 26 = some d ∧ d.isRow = true := by
  have h : ((Try.prog.underlying 26).map (·.isRow)) = some true := by kernel_rfl
  cases hd : Try.prog.underlying 26 with
  | none => rw [hd] at h; cases h
  | some d => rw [hd] at h; exact ⟨d, rfl, by simpa using h⟩
theorem own_apart {w : World} {base : Nat} {e : TypeId} {v : Value} {n : Nat} {xs : List Value} (h : w.ownsRow base e 1 v n xs) {g : Nat} (hg : g < base ∨ w.heap.size ≤ g) : v.ownBlock = none ∨ v.ownBlock ≠ some g := by
  cases hv : v.ownBlock with
  | none => exact .inl rfl
  | some k => exact .inr fun e' => by cases e'; have := h.lt g hv; omega
theorem apList_take {L : List Int} {r : Nat} (h1 : 1 ≤ r) (hr : r < L.length + 1) : (apList L).take (r + 1) = (apList L).take r ++ [at7 L r * ((L.length : Int) + 1) + (r : Int)] := by
  rw [List.take_add_one, apList_at hr, if_neg (by omega)]; rfl
theorem apList_one (L : List Int) : (apList L).take 1 = [0] := by
  rw [List.take_add_one, apList_at (by omega), if_pos rfl]; rfl
theorem fromApL_le (l : List Int) : (fromApL l).length ≤ 12 := by
  cases h : fromApB l
  · rw [fromApL_no h]; exact Nat.zero_le _
  · exact (isSgB_iff.1 (fromApB_sg h).1.sg).len
theorem fromCo_ap {L : List Int} (h1 : clashQ L = false) (h2 : L.length < 60) : fromCoB L = fromApB (apList L) ∧ fromCoL L = fromApL (apList L) := by
  have e : fromCoB L = fromApB (apList L) := by unfold fromCoB; rw [h1, decide_eq_true h2]; rfl
  refine ⟨e, ?_⟩
  cases h : fromApB (apList L)
  · rw [fromCoL_no (by rw [e, h]), fromApL_no h]
  · exact fromCoL_yes (by rw [e, h])

set_option maxRecDepth 100000 in
set_option maxHeartbeats 3200000 in
theorem spec_FromCoordinates (L : List Int) (a : Option Addr) (cap : Nat) (w : World) (hr : SlV w a (L.map (Value.int .i64))) (hb : L.length ≤ 1048576) :
    Calls Try.prog 16 #[.slice a L.length cap] w (SgPost (fromCoL L) (fromCoB L) w) := by
  obtain ⟨i0, hi, hz0, hz1, hz2⟩ := info_parts infoIntL
  obtain ⟨dS, hdS, hrS⟩ := undSg
  obtain ⟨W, hW⟩ : ∃ W, W = w.alloc (.cells [Value.slice none 0 0].toArray 26) := ⟨_, rfl⟩
  have hbW : Below w.heap.size w W := by rw [hW]; exact box_below _ _
  have hAW : Arr W w.heap.size 26 [Value.slice none 0 0] := by rw [hW]; exact Arr.new _ _ _
  have HW := Lib.hid hW
  clear hW
  have c1 := spec_CoordinateClash L a cap W (hr.below hbW) hb
  go_enter Try.func16, Try.ntmps16
  go_wp2_with (first
    | (refine wpList_alloc_arr 26 [Value.slice none 0 0] zeroSg rfl rfl ?_; rw [← HW.out]))
  refine c1.mono ?_
  rintro e w1 ⟨rfl, hb1⟩
  have hb01 := hbW.trans (hb1.mono hbW.size)
  have hA1 := hAW.below hb1
  have hz01 := hA1.lt
  have hC := Arr.new w1 33 [Value.int .i64 0, Value.int .i64 0]
  have hbC := hb01.alloc (o := .cells [Value.int .i64 0, Value.int .i64 0].toArray 33) hb01.size
  have hA1c := hA1.alloc (.cells [Value.int .i64 0, Value.int .i64 0].toArray 33)
  have hs01 := hb01.size
  clear c1 hAW hb1 hbW
  cases hq : clashQ L
  · by_cases hlen : L.length < 60
    · obtain ⟨hF1, hF2⟩ := fromCo_ap hq hlen
      have HF1 := Lib.hid hF1
      have HF2 := Lib.hid hF2
      have HBB : Hid (∀ j, 1 ≤ j → j < L.length + 1 → 1 ≤ at7 L j ∧ at7 L j ≤ 200) := Lib.hid fun j h1 h2 => bad7_none (by unfold clashQ at hq; cases h : clashR L with | none => rfl | some p => rw [h] at hq; cases hq) h1 h2
      have hge : decide ((60 : Int) ≤ (L.length : Int)) = false := decide_eq_false (by omega)
      have hlA := apList_len L
      have hl0 : ((apList L).take 1).map (Value.int .i64) = [.int .i64 0] := by rw [apList_one]; rfl
      clear hq hF1 hF2
      go_wp2_with (first
        | (refine wpList_alloc_arr 33 [Value.int .i64 0, Value.int .i64 0] zeroC rfl rfl ?_)
        | (refine wpList_store_arr 33 (.tmp 4) (.tmp 14) w1.heap.size [Value.int .i64 0, Value.int .i64 0] [Value.int .i64 (clashA L), Value.int .i64 (clashB L)] rfl rfl rfl rfl hC rfl sizeC (by simp [Value.oneCell']) ?_; intro w2 hC2 hg2 hz2'; clear hz2'))
      have hb2 := hbC.grown hg2 hbC.size (fun k hk => by cases hk; exact hs01)
      have hA2 := hA1c.grown hg2 (by simp; omega)
      have hs2 := hb2.size
      have hown0 : (w2.alloc (.cells #[.int .i64 0] 3)).ownsRow w2.heap.size 3 1 (.slice (some ⟨w2.heap.size, 0, none⟩) 1 1) 1 [.int .i64 0] := World.ownsRow_lit w2 #[.int .i64 0] 1 (Nat.le_refl _) (by unfold maxLen; omega) rfl
      have hA3 := hA2.alloc (.cells #[.int .i64 0] 3)
      have hbel3 := hb2.alloc (o := .cells #[.int .i64 0] 3) hs2
      have hsA := hA2.lt
      clear hC hbC hA1c hg2 hC2 hA1 hA2
      have hSW := hr.below hb2
      clear hr
      go_loopw [7, 8] (fun v i wr => ∃ r : Nat, 1 ≤ r ∧ r ≤ L.length + 1 ∧ i = .int .i64 (r : Int) ∧ wr.ownsRow w2.heap.size 3 1 v r (((apList L).take r).map (Value.int .i64)) ∧
          Arr wr w.heap.size 26 [Value.slice none 0 0] ∧ w2.heap.size ≤ wr.heap.size ∧ Below w2.heap.size w2 wr) (fun _ i _ => L.length + 1 - (intOf i).toNat)
      case atStart => exact ⟨1, Nat.le_refl _, by omega, rfl, by rw [hl0]; exact hown0, hA3, by simp, box_below _ _⟩
      case round =>
        clear hown0 hA3 hbel3
        obtain ⟨r, hr1, hrm, rfl, hown, hA, hsz, hbel⟩ := hrel
        have hbw := hb2.trans (hbel.mono hs2)
        by_cases hlt : r < L.length + 1
        · obtain ⟨i1, hi1⟩ : ∃ j, r = j + 1 := ⟨r - 1, by omega⟩
          obtain ⟨b, off, rfl, hbs, hc⟩ := (hSW.below hbel).open (by intro h; rw [List.map_eq_nil_iff] at h; subst h; simp at hlt; omega)
          have hk1 : wr.cell? ⟨b, off + i1, none⟩ = some (.int .i64 (at7 L r)) := by
            rw [hc i1 (.int .i64 L[i1]) (by simp [show i1 < L.length by omega])]
            unfold at7
            rw [show r - 1 = i1 by omega, List.getD_eq_getElem?_getD, List.getElem?_eq_getElem (by omega)]; rfl
          obtain ⟨p1, p2⟩ := HBB.out r hr1 hlt
          have HT := Lib.hid (apList_take hr1 hlt)
          have hw1 : (r : Int) - 1 = (i1 : Int) := by omega
          have hv1 : (0 : Int) ≤ (i1 : Int) := by omega
          have hv3 : (i1 : Int) < (L.length : Int) := by omega
          have hlti : (r : Int) < (L.length : Int) + 1 := by omega
          have htl : ((apList L).take r).length = r := by rw [List.length_take, hlA]; omega
          generalize at7 L r = p at *
          obtain ⟨T, hT⟩ : ∃ T, T = p * ((L.length : Int) + 1) := ⟨_, rfl⟩
          have hT0 : 0 ≤ T := by rw [hT]; exact Int.mul_nonneg (by omega) (by omega)
          have hT1 : T ≤ 200 * 60 := by rw [hT]; exact Int.mul_le_mul p2 (by omega) (by omega) (by omega)
          have hw2 : IntKind.i64.wrap (p * ((L.length : Int) + 1)) = T := by rw [← hT]; exact IntWalk.i64_in _ (by omega)
          have hw3 : IntKind.i64.wrap (T + (r : Int)) = T + (r : Int) := IntWalk.i64_in _ (by omega)
          rw [← hT] at HT
          clear hc hi1 hT
          go_wp2_with (first
            | (at_builtin; refine wpList_append_own _ rfl (.tmp 32) (.tmp 42) 24 rfl w2.heap.size 3 i0 (Value.int .i64 0) 1 8 Try.underlying24 hi hz0 hz1 hz2 rfl (by decide) _ _ _ rfl (hown.alloc _) ⟨_, 0, none⟩ 1 1 [.int .i64 (T + (r : Int))] rfl rfl (World.news_of_block (cs := #[.int .i64 (T + (r : Int))]) (t := 3) (fr := (0, 0)) (heap_alloc_new _ _)) (by simp [Value.oneCell']) (by unfold maxLen; omega) (by omega) (by simp; omega) ?_; intro v6 w6 hown6 hg6 _))
          have hA6 := Arr.grown (hA.alloc (.cells #[.int .i64 (T + (r : Int))] 3)) hg6 (fun e => by have := hown.lt w.heap.size e.symm; omega)
          have hbel6 := (hbel.alloc hsz (.cells #[.int .i64 (T + (r : Int))] 3)).grown hg6 (by simp; omega) (fun j hj => (hown.lt j hj).1)
          have HO := Lib.hid hown6
          clear hown6 hg6 hown hA hbel
          go_roundw
          case rel => exact ⟨r + 1, by omega, by omega, by go_num, by rw [HT.out, List.map_append]; exact HO.out, hA6, hbel6.size, hbel6⟩
          case measure => simp [intOf]; omega
        · have hre : r = (apList L).length := by omega
          rw [hre, List.take_of_length_le (Nat.le_refl _)] at hown
          obtain ⟨a1, k1, rfl, rX⟩ := row_open hown
          have c2 := spec_FromApery (apList L) a1 k1 wr rX.slv (by omega)
          have hnl : ¬ (r : Int) < (L.length : Int) + 1 := by omega
          have hml := fromApL_le (apList L)
          clear hown rX hre hbel hlt hlA
          go_wp2_with fail
          refine c2.mono ?_
          rintro e w4 ⟨v4, rfl, ho4, hb4⟩
          obtain ⟨a4, k4, rfl, -⟩ := row_open ho4
          have hA4 := hA.below hb4
          have hbw4 := hbw.trans (hb4.mono hbw.size)
          have hs4 := hb4.size
          clear c2 hb4 hA hbw
          have hN := Arr.new w4 26 [Value.slice none 0 0]
          have hA4c := hA4.alloc (.cells [Value.slice none 0 0].toArray 26)
          have hbw5 := hbw4.alloc (o := .cells [Value.slice none 0 0].toArray 26) hbw4.size
          have ho4c := ho4.alloc (.cells [Value.slice none 0 0].toArray 26)
          have hlt4 := hA4.lt
          have hn4 := own_apart ho4 (g := w4.heap.size) (.inr (Nat.le_refl _))
          have hn5 := own_apart ho4 (g := w.heap.size) (.inl (by omega))
          generalize hK : (fromApL (apList L)).length = K at *
          go_wp2_with (first
            | (refine wpList_alloc_arr 26 [Value.slice none 0 0] zeroSg rfl rfl ?_)
            | (refine wpList_store_arr 26 (.tmp 9) (.tmp 47) w4.heap.size [Value.slice none 0 0] [Value.slice a4 K k4] rfl rfl rfl rfl hN rfl sizeSg (by simp [Value.oneCell']) ?_; intro w6 hN6 hg6 hz6; clear hz6)
            | (refine wpList_load_arr 26 (.tmp 9) w4.heap.size [Value.slice a4 K k4] dS rfl rfl rfl hN6 hdS hrS sizeSg ?_)
            | (refine wpList_store_arr 26 (.tmp 2) (.tmp 49) w.heap.size [Value.slice none 0 0] [Value.slice a4 K k4] rfl rfl rfl rfl (hA4c.grown hg6 (by simp; omega)) rfl sizeSg (by simp [Value.oneCell']) ?_; intro w7 hA7 hg7 hz7; clear hz7))
          have ho7 := (ho4c.kept hg6 hn4).kept hg7 hn5
          have hb6 := hbw5.grown hg6 hbw5.size (fun k hk => by cases hk; exact hbw4.size)
          have hb7 := hb6.grown hg7 hb6.size (fun k hk => by cases hk; exact Nat.le_refl _)
          refine bodyPost_ret (results_arr_tmp rfl _ _ w.heap.size [Value.slice a4 K k4] dS rfl hA7 hdS hrS sizeSg) rfl ⟨_, by rw [HF1.out]; rfl, ?_, hb7⟩
          rw [HF2.out, hK]
          exact owns_wider ho7 (by omega)
    · have hF : fromCoB L = false := by unfold fromCoB; rw [decide_eq_false hlen, Bool.and_false]; rfl
      have HF := Lib.hid hF
      have hge : decide ((60 : Int) ≤ (L.length : Int)) = true := decide_eq_true (by omega)
      clear hq hF hlen hr
      go_wp2_with (first
        | (refine wpList_alloc_arr 33 [Value.int .i64 0, Value.int .i64 0] zeroC rfl rfl ?_)
        | (refine wpList_store_arr 33 (.tmp 4) (.tmp 14) w1.heap.size [Value.int .i64 0, Value.int .i64 0] [Value.int .i64 (clashA L), Value.int .i64 (clashB L)] rfl rfl rfl rfl hC rfl sizeC (by simp [Value.oneCell']) ?_; intro w2 hC2 hg2 hz2'; clear hz2')
        | (refine wpList_store_arr 26 (.tmp 2) (.tmp 22) w.heap.size [Value.slice none 0 0] [Value.slice none 0 0] rfl rfl rfl rfl (hA1c.grown hg2 (by simp; omega)) rfl sizeSg (by simp [Value.oneCell']) ?_; intro w3 hA3 hg3 hz3; clear hz3))
      have hb2 := hbC.grown hg2 hbC.size (fun k hk => by cases hk; exact hs01)
      have hb3 := hb2.grown hg3 hb2.size (fun k hk => by cases hk; exact Nat.le_refl _)
      exact bodyPost_ret (results_arr_tmp rfl _ _ w.heap.size [Value.slice none 0 0] dS rfl hA3 hdS hrS sizeSg) rfl ⟨_, by rw [HF.out]; rfl, by rw [fromCoL_no HF.out]; exact World.ownsRow_nil _ _ _ _, hb3⟩
  · have hF : fromCoB L = false := by unfold fromCoB; rw [hq]; rfl
    have HF := Lib.hid hF
    clear hq hF hr
    go_wp2_with (first
      | (refine wpList_alloc_arr 33 [Value.int .i64 0, Value.int .i64 0] zeroC rfl rfl ?_)
      | (refine wpList_store_arr 33 (.tmp 4) (.tmp 14) w1.heap.size [Value.int .i64 0, Value.int .i64 0] [Value.int .i64 (clashA L), Value.int .i64 (clashB L)] rfl rfl rfl rfl hC rfl sizeC (by simp [Value.oneCell']) ?_; intro w2 hC2 hg2 hz2'; clear hz2')
      | (refine wpList_store_arr 26 (.tmp 2) (.tmp 22) w.heap.size [Value.slice none 0 0] [Value.slice none 0 0] rfl rfl rfl rfl (hA1c.grown hg2 (by simp; omega)) rfl sizeSg (by simp [Value.oneCell']) ?_; intro w3 hA3 hg3 hz3; clear hz3))
    have hb2 := hbC.grown hg2 hbC.size (fun k hk => by cases hk; exact hs01)
    have hb3 := hb2.grown hg3 hb2.size (fun k hk => by cases hk; exact Nat.le_refl _)
    exact bodyPost_ret (results_arr_tmp rfl _ _ w.heap.size [Value.slice none 0 0] dS rfl hA3 hdS hrS sizeSg) rfl ⟨_, by rw [HF.out]; rfl, by rw [fromCoL_no HF.out]; exact World.ownsRow_nil _ _ _ _, hb3⟩
end Go.Proofs.Ytgkkkmcgnpdchaa
