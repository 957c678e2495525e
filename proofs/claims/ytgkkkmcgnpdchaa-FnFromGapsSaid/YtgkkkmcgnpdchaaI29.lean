/-
  CONTRACTS of the program's chapter 7, fourth part: FromCoordinates. (Own work.)
-/
import Derived.Test.YtgkkkmcgnpdchaaI28
namespace Go.Proofs.Ytgkkkmcgnpdchaa
open Go Go.RowKit
attribute [local go_sem] Oper.semAt_some

set_option maxRecDepth 100000 in
set_option maxHeartbeats 3200000 in
theorem impl_FromCoordinates (L : List Int) (a : Option Addr) (cap : Nat) (w : World) (hr : SlV w a (L.map (Value.int .i64))) (hb : L.length ≤ 1048576) :
    Calls Try.prog 15 #[.slice a L.length cap] w (SgPost (fromCoL L) (fromCoB L) w) := by
  obtain ⟨i0, hi, hz0, hz1, hz2⟩ := info_parts infoIntL
  obtain ⟨dS, hdS, hrS⟩ := undSg
  obtain ⟨W, hW⟩ : ∃ W, W = w.alloc (.cells [Value.slice none 0 0].toArray 26) := ⟨_, rfl⟩
  have hbW : Below w.heap.size w W := by rw [hW]; exact box_below _ _
  have hAW : Arr W w.heap.size 26 [Value.slice none 0 0] := by rw [hW]; exact Arr.new _ _ _
  have HW := Lib.hid hW
  clear hW
  have cm := impl_modulus L.length a cap W hb
  have c1 := impl_CoordinateClash L a cap W (hr.below hbW) hb
  go_enter Try.func15, Try.ntmps15
  go_wp2_with (first
    | (refine wpList_alloc_arr 26 [Value.slice none 0 0] zeroSg rfl rfl ?_; rw [← HW.out]))
  by_cases hlen : L.length < 60
  · have hge : decide ((60 : Int) < (L.length : Int) + 1) = false := decide_eq_false (by omega)
    refine cm.mono ?_
    rintro e w0 ⟨rfl, rfl⟩
    go_wp2_with fail
    refine c1.mono ?_
    rintro e w1 ⟨rfl, hb1⟩
    have hb01 := hbW.trans (hb1.mono hbW.size)
    have hA1 := hAW.below hb1
    have hz01 := hA1.lt
    have hC := Arr.new w1 33 [Value.int .i64 0, Value.int .i64 0]
    have hbC := hb01.alloc (o := .cells [Value.int .i64 0, Value.int .i64 0].toArray 33) hb01.size
    have hA1c := hA1.alloc (.cells [Value.int .i64 0, Value.int .i64 0].toArray 33)
    have hs01 := hb01.size
    clear c1 cm hAW hb1 hbW
    cases hq : clashQ L
    · obtain ⟨hF1, hF2⟩ := fromCo_ap hq hlen
      have HF1 := Lib.hid hF1
      have HF2 := Lib.hid hF2
      have HBB : Hid (∀ j, 1 ≤ j → j < L.length + 1 → 1 ≤ at7 L j ∧ at7 L j ≤ 200) := Lib.hid fun j h1 h2 => bad7_none (by unfold clashQ at hq; cases h : clashR L with | none => rfl | some p => rw [h] at hq; cases hq) h1 h2
      have hlA := apList_len L
      have hl0 : ((apList L).take 1).map (Value.int .i64) = [.int .i64 0] := by rw [apList_one]; rfl
      clear hq hF1 hF2
      go_wp2_with (first
        | (refine wpList_alloc_arr 33 [Value.int .i64 0, Value.int .i64 0] zeroC rfl rfl ?_)
        | (refine wpList_store_arr 33 (.tmp 5) (.tmp 18) w1.heap.size [Value.int .i64 0, Value.int .i64 0] [Value.int .i64 (clashA L), Value.int .i64 (clashB L)] rfl rfl rfl rfl hC rfl sizeC (by simp [Value.oneCell']) ?_; intro w2 hC2 hg2 hz2'; clear hz2'))
      have hb2 := hbC.grown hg2 hbC.size (fun k hk => by cases hk; exact hs01)
      have hA2 := hA1c.grown hg2 (by simp; omega)
      have hs2 := hb2.size
      have hown0 : (w2.alloc (.cells #[.int .i64 0] 3)).ownsRow w2.heap.size 3 1 (.slice (some ⟨w2.heap.size, 0, none⟩) 1 1) 1 [.int .i64 0] := World.ownsRow_lit w2 #[.int .i64 0] 1 (Nat.le_refl _) (by unfold maxLen; omega) rfl
      have hA3 := hA2.alloc (.cells #[.int .i64 0] 3)
      have hsA := hA2.lt
      clear hC hbC hA1c hg2 hC2 hA1 hA2
      have hSW := hr.below hb2
      clear hr
      go_loopw [7, 25] (fun v i wr => ∃ k : Nat, k ≤ L.length ∧ i = .int .i64 (k : Int) ∧ wr.ownsRow w2.heap.size 3 1 v (k + 1) (((apList L).take (k + 1)).map (Value.int .i64)) ∧
          Arr wr w.heap.size 26 [Value.slice none 0 0] ∧ w2.heap.size ≤ wr.heap.size ∧ Below w2.heap.size w2 wr) (fun _ i _ => L.length - (intOf i).toNat)
      case atStart => exact ⟨0, Nat.zero_le _, rfl, by rw [hl0]; exact hown0, hA3, by simp, box_below _ _⟩
      case round =>
        clear hown0 hA3
        obtain ⟨k, hk, rfl, hown, hA, hsz, hbel⟩ := hrel
        have hbw := hb2.trans (hbel.mono hs2)
        by_cases hlt : k < L.length
        · obtain ⟨b, off, rfl, hcell⟩ := at7_cell (hSW.below hbel) hlt
          obtain ⟨p1, p2⟩ := HBB.out (k + 1) (by omega) (by omega)
          have hT := apList_take (L := L) (r := k + 1) (by omega) (by omega)
          have htl : ((apList L).take (k + 1)).length = k + 1 := by rw [List.length_take, hlA]; omega
          generalize at7 L (k + 1) = p at *
          obtain ⟨T, hTe⟩ : ∃ T, T = p * ((L.length : Int) + 1) := ⟨_, rfl⟩
          have hT0 : 0 ≤ T := by rw [hTe]; exact Int.mul_nonneg (by omega) (by omega)
          have hT1 : T ≤ 200 * 60 := by rw [hTe]; exact Int.mul_le_mul p2 (by omega) (by omega) (by omega)
          have hw2 : IntKind.i64.wrap (p * ((L.length : Int) + 1)) = T := by rw [← hTe]; exact IntWalk.i64_in _ (by omega)
          have hw3 : IntKind.i64.wrap (T + (k : Int)) = T + (k : Int) := IntWalk.i64_in _ (by omega)
          have hw4 : IntKind.i64.wrap (T + (k : Int) + 1) = T + (k : Int) + 1 := IntWalk.i64_in _ (by omega)
          rw [← hTe, show T + ((k + 1 : Nat) : Int) = T + (k : Int) + 1 by omega] at hT
          have HT := Lib.hid hT
          clear hT hTe
          go_wp2_with (first
            | (at_builtin; refine wpList_append_own _ rfl (.tmp 30) (.tmp 37) 24 rfl w2.heap.size 3 i0 (Value.int .i64 0) 1 8 Try.underlying24 hi hz0 hz1 hz2 rfl (by decide) _ _ _ rfl (hown.alloc _) ⟨_, 0, none⟩ 1 1 [.int .i64 (T + (k : Int) + 1)] rfl rfl (World.news_of_block (cs := #[.int .i64 (T + (k : Int) + 1)]) (t := 3) (fr := (0, 0)) (heap_alloc_new _ _)) (by simp [Value.oneCell']) (by unfold maxLen; omega) (by omega) (by simp; omega) ?_; intro v6 w6 hown6 hg6 _))
          have hA6 := Arr.grown (hA.alloc (.cells #[.int .i64 (T + (k : Int) + 1)] 3)) hg6 (fun e => by have := hown.lt w.heap.size e.symm; omega)
          have hbel6 := (hbel.alloc hsz (.cells #[.int .i64 (T + (k : Int) + 1)] 3)).grown hg6 (by simp; omega) (fun j hj => (hown.lt j hj).1)
          have HO := Lib.hid hown6
          clear hown6 hg6 hown hA hbel
          go_roundw
          case rel => exact ⟨k + 1, by omega, by go_num, by rw [HT.out, List.map_append]; exact HO.out, hA6, hbel6.size, hbel6⟩
          case measure => simp [intOf]; omega
        · have hre : k + 1 = (apList L).length := by omega
          rw [hre, List.take_of_length_le (Nat.le_refl _)] at hown
          obtain ⟨a1, k1, rfl, rX⟩ := row_open hown
          have c2 := impl_FromApery (apList L) a1 k1 wr rX.slw (by omega)
          have hml := fromApL_le (apList L)
          clear hown rX hre hbel hlA
          go_wp2_with fail
          refine c2.mono ?_
          rintro e w4 ⟨v4, rfl, ho4, hb4⟩
          obtain ⟨a4, k4, rfl, -⟩ := row_open ho4
          have hA4 := hA.below hb4
          have hbw4 := hbw.trans (hb4.mono hbw.size)
          clear c2 hb4 hA
          have hlt4 := hA4.lt
          have hn5 := own_apart ho4 (g := w.heap.size) (.inl (by omega))
          generalize hK : (fromApL (apList L)).length = K at *
          go_wp2_with (first
            | (refine wpList_store_arr 26 (.tmp 2) (.tmp 42) w.heap.size [Value.slice none 0 0] [Value.slice a4 K k4] rfl rfl rfl rfl hA4 rfl sizeSg (by simp [Value.oneCell']) ?_; intro w7 hA7 hg7 hz7; clear hz7))
          have ho7 := ho4.kept hg7 hn5
          have hb7 := hbw4.grown hg7 hbw4.size (fun k hk => by cases hk; exact Nat.le_refl _)
          refine bodyPost_ret (results_arr_tmp rfl _ _ w.heap.size [Value.slice a4 K k4] dS rfl hA7 hdS hrS sizeSg) rfl ⟨_, by rw [HF1.out]; rfl, ?_, hb7⟩
          rw [HF2.out, hK]
          exact owns_wider ho7 (by have := hbw.size; omega)
    · have hF : fromCoB L = false := by unfold fromCoB; rw [hq]; rfl
      have HF := Lib.hid hF
      clear hq hF hr
      go_wp2_with (first
        | (refine wpList_alloc_arr 33 [Value.int .i64 0, Value.int .i64 0] zeroC rfl rfl ?_)
        | (refine wpList_store_arr 33 (.tmp 5) (.tmp 18) w1.heap.size [Value.int .i64 0, Value.int .i64 0] [Value.int .i64 (clashA L), Value.int .i64 (clashB L)] rfl rfl rfl rfl hC rfl sizeC (by simp [Value.oneCell']) ?_; intro w2 hC2 hg2 hz2'; clear hz2')
        | (refine wpList_store_arr 26 (.tmp 2) (.tmp 21) w.heap.size [Value.slice none 0 0] [Value.slice none 0 0] rfl rfl rfl rfl (hA1c.grown hg2 (by simp; omega)) rfl sizeSg (by simp [Value.oneCell']) ?_; intro w3 hA3 hg3 hz3; clear hz3))
      have hb2 := hbC.grown hg2 hbC.size (fun k hk => by cases hk; exact hs01)
      have hb3 := hb2.grown hg3 hb2.size (fun k hk => by cases hk; exact Nat.le_refl _)
      exact bodyPost_ret (results_arr_tmp rfl _ _ w.heap.size [Value.slice none 0 0] dS rfl hA3 hdS hrS sizeSg) rfl ⟨_, by rw [HF.out]; rfl, by rw [fromCoL_no HF.out]; exact World.ownsRow_nil _ _ _ _, hb3⟩
  · have hF : fromCoB L = false := by unfold fromCoB; rw [decide_eq_false hlen, Bool.and_false]; rfl
    have HF := Lib.hid hF
    have hge : decide ((60 : Int) < (L.length : Int) + 1) = true := decide_eq_true (by omega)
    clear hF hlen hr c1
    refine cm.mono ?_
    rintro e w0 ⟨rfl, rfl⟩
    go_wp2_with (first
      | (refine wpList_store_arr 26 (.tmp 2) (.tmp 14) w.heap.size [Value.slice none 0 0] [Value.slice none 0 0] rfl rfl rfl rfl hAW rfl sizeSg (by simp [Value.oneCell']) ?_; intro w3 hA3 hg3 hz3; clear hz3))
    have hb3 := hbW.grown hg3 hbW.size (fun k hk => by cases hk; exact Nat.le_refl _)
    exact bodyPost_ret (results_arr_tmp rfl _ _ w.heap.size [Value.slice none 0 0] dS rfl hA3 hdS hrS sizeSg) rfl ⟨_, by rw [HF.out]; rfl, by rw [fromCoL_no HF.out]; exact World.ownsRow_nil _ _ _ _, hb3⟩
end Go.Proofs.Ytgkkkmcgnpdchaa
