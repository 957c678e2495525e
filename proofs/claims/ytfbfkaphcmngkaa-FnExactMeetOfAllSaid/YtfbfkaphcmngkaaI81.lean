/-
  CONTRACT of the program's MeetOfAll. (Own work; mk81.py.)
-/
import Derived.Test.YtfbfkaphcmngkaaSgMl
import Derived.Test.YtfbfkaphcmngkaaSgMs
import Derived.Test.YtfbfkaphcmngkaaI59
import Derived.Test.YtfbfkaphcmngkaaL24
import Derived.Deep.Cut
namespace Go.Proofs.Ytfbfkaphcmngkaa
open Go Go.RowKit

set_option maxRecDepth 100000 in
set_option maxHeartbeats 800000 in
theorem impl_withoutGaps (w : World) : Calls Try.prog 18 #[] w fun e w' => ∃ v, e = .returned (.agg #[v]) ∧ w'.ownsRow w.heap.size 3 1 v 1 (([1] : List Int).map (Value.int .i64)) ∧ Below w.heap.size w w' := by
  obtain ⟨dS, hdS, hrS⟩ := undSg
  obtain ⟨U, hU⟩ : ∃ U, U = w.alloc (.cells [Value.slice none 0 0].toArray 26) := ⟨_, rfl⟩
  have hbU : Below w.heap.size w U := by rw [hU]; exact box_below _ _
  have hAU : Arr U w.heap.size 26 [Value.slice none 0 0] := by rw [hU]; exact Arr.new _ _ _
  have hU1 := hAU.lt
  have hA1 := hAU.alloc (.cells #[.int .i64 1] 3)
  have hb1 := hbU.alloc hbU.size (.cells #[.int .i64 1] 3)
  have hO := World.ownsRow_lit (base := w.heap.size + 1) (e := 3) (size := 1) U #[.int .i64 1] 1 (by omega) (by unfold maxLen; omega) rfl
  have hbuilt : Try.prog.built 26 [(0, .slice (some ⟨U.heap.size, 0, none⟩) 1 1)] = some [Value.slice (some ⟨U.heap.size, 0, none⟩) 1 1].toArray := by kernel_rfl
  have HU := Lib.hid hU
  have HO := Lib.hid hO
  clear hU hO
  go_enter Try.func18, Try.ntmps18
  go_upto_region 1 with (first | (refine wpList_alloc_arr 26 [Value.slice none 0 0] zeroSg rfl rfl ?_; rw [← HU.out]))
  go_wp2_with (first | (refine wpList_build_arr 26 _ [Value.slice (some ⟨U.heap.size, 0, none⟩) 1 1] rfl rfl hbuilt ?_) | (refine wpList_store_arr 26 (.tmp 0) (.tmp 2) w.heap.size [Value.slice none 0 0] [Value.slice (some ⟨U.heap.size, 0, none⟩) 1 1] rfl rfl rfl rfl hA1 rfl sizeSg (by simp [Value.oneCell']) ?_; intro w9 hA9 hg9 hz9; clear hz9))
  have hb9 := hb1.grown hg9 hb1.size (fun k hk => by cases hk; exact Nat.le_refl _)
  exact bodyPost_ret (results_arr rfl _ _ w.heap.size [Value.slice (some ⟨U.heap.size, 0, none⟩) 1 1] dS rfl hA9 hdS hrS sizeSg) rfl ⟨_, rfl, ownsBase (HO.out.kept hg9 (.inr (fun e => by injection e with e; have e2 : U.heap.size = w.heap.size := e; omega))) (Nat.le_succ _), hb9⟩

set_option maxRecDepth 100000 in
set_option maxHeartbeats 3200000 in
theorem impl_MeetOfAll (LL : List (List Int)) (a : Option Addr) (cap : Nat) (w : World) (hs : Sl2W w a LL) (hn : LL.length ≤ 1048576) (hw : ∀ L ∈ LL, L.length ≤ 1048576) :
    Calls Try.prog 7 #[.slice a LL.length cap] w (SgPost (mAllL LL) (mAllB LL) w) := by
  obtain ⟨dS, hdS, hrS⟩ := undSg
  obtain ⟨U, hU⟩ : ∃ U, U = w.alloc (.cells [Value.slice none 0 0].toArray 26) := ⟨_, rfl⟩
  have hbU : Below w.heap.size w U := by rw [hU]; exact box_below _ _
  have hU1 : w.heap.size + 1 ≤ U.heap.size := by rw [hU]; simp
  have hAU : Arr U w.heap.size 26 [Value.slice none 0 0] := by rw [hU]; exact Arr.new _ _ _
  have HU := Lib.hid hU
  have HS := Lib.hid (fun w2 (h : Below w.heap.size w w2) => hs.below h)
  have HW := Lib.hid hw
  clear hU hs hw
  by_cases h0 : LL.length = 0
  · have hz : ((LL.length : Int) == 0) = true := by rw [h0]; rfl
    have HB : Hid (mAllB LL = false) := Lib.hid (mAll_none h0).1
    have HL : Hid (mAllL LL = []) := Lib.hid (mAll_none h0).2
    clear h0
    go_enter Try.func7, Try.ntmps7
    go_upto_region 1 with (first | (refine wpList_alloc_arr 26 [Value.slice none 0 0] zeroSg rfl rfl ?_; rw [← HU.out]))
    go_wp2_with (first | (refine wpList_store_arr 26 (.tmp 2) (.tmp 11) w.heap.size [Value.slice none 0 0] [Value.slice none 0 0] rfl rfl rfl rfl hAU rfl sizeSg (by simp [Value.oneCell']) ?_; intro w9 hA9 hg9 hz9; clear hz9))
    have hb9 := hbU.grown hg9 hbU.size (fun k hk => by cases hk; exact Nat.le_refl _)
    exact bodyPost_ret (results_arr_tmp rfl _ _ w.heap.size [Value.slice none 0 0] dS rfl hA9 hdS hrS sizeSg) rfl ⟨_, by rw [HB.out]; rfl, by rw [HL.out]; exact World.ownsRow_nil _ _ _ _, hb9⟩
  · have hpos : 0 < LL.length := by omega
    have hz : ((LL.length : Int) == 0) = false := by rw [beq_eq_false_iff_ne]; omega
    clear h0
    have c2 := impl_withoutGaps U
    go_enter Try.func7, Try.ntmps7
    go_upto_region 1 with (first | (refine wpList_alloc_arr 26 [Value.slice none 0 0] zeroSg rfl rfl ?_; rw [← HU.out]))
    go_wp2_with fail
    refine c2.mono ?_
    rintro e w2 ⟨v, rfl, ho, hb2⟩
    obtain ⟨p0, q0, rfl, -⟩ := row_open ho
    have hb2w := hbU.trans (hb2.mono hbU.size)
    have hA22 := hAU.below hb2
    have hz2 := hb2.size
    obtain ⟨X, hX⟩ : ∃ X, X = w2.alloc (.cells #[.slice p0 1 q0] 26) := ⟨_, rfl⟩
    have hbX : Below w.heap.size w X := by rw [hX]; exact hb2w.alloc hb2w.size _
    have hNX : Arr X w2.heap.size 26 [.slice p0 1 q0] := by rw [hX]; exact Arr.new _ _ _
    have hA2X : Arr X w.heap.size 26 [Value.slice none 0 0] := by rw [hX]; exact hA22.alloc _
    have hoX : X.ownsRow (w.heap.size + 1) 3 1 (.slice p0 1 q0) 1 (([1] : List Int).map (Value.int .i64)) := by rw [hX]; exact (ownsBase ho hU1).alloc _
    have hN4w : w.heap.size + 1 ≤ w2.heap.size := by omega
    have HX := Lib.hid hX
    have HNX0 := Lib.hid (show Arr X w2.heap.size 26 [.slice p0 (mRun LL 0).1.length q0] from hNX)
    have HOX := Lib.hid (show X.ownsRow (w.heap.size + 1) 3 1 (.slice p0 (mRun LL 0).1.length q0) (mRun LL 0).1.length ((mRun LL 0).1.map (Value.int .i64)) from hoX)
    have HAX := Lib.hid hA2X
    clear c2 ho hb2 hA22 hA2X hoX hX hNX hAU hb2w
    go_upto_region 4 with fail
    rw [← HX.out]
    go_wp2_with fail
    go_loopw [5, 15] (fun ok i wr => ∃ (k : Nat) (p : Option Addr) (q : Nat), k ≤ LL.length ∧ i = .int .i64 (k : Int) ∧ ok = .bool (mRun LL k).2 ∧ Hid (Arr wr w2.heap.size 26 [.slice p (mRun LL k).1.length q]) ∧ Hid (wr.ownsRow (w.heap.size + 1) 3 1 (.slice p (mRun LL k).1.length q) (mRun LL k).1.length ((mRun LL k).1.map (Value.int .i64))) ∧ Hid (Arr wr w.heap.size 26 [Value.slice none 0 0]) ∧ Below w.heap.size w wr) (fun _ i _ => LL.length - (intOf i).toNat)
    case atStart => exact ⟨0, p0, q0, Nat.zero_le _, rfl, rfl, HNX0, HOX, HAX, hbX⟩
    case round =>
      rename World => wr
      obtain ⟨k, p, q, hk, rfl, rfl, HN, HO, HA, hbel⟩ := hrel
      have hsz := hbel.size
      by_cases hlt : k < LL.length
      · obtain ⟨b2, o2, p2, q2, ea, hl2, hc2, hs2⟩ := (HS.out wr hbel).sl2.at hlt
        subst ea
        have hlti : (k : Int) < (LL.length : Int) := by omega
        have hk0 : (0 : Int) ≤ (k : Int) := by omega
        have hwl := HW.out LL[k] (List.getElem_mem hlt)
        have hA12 := mRun_len LL hk
        have HNX : Hid (mRun LL (k + 1) = (meetL (mRun LL k).1 LL[k], meetB (mRun LL k).1 LL[k])) := Lib.hid (mRun_next hlt)
        have hml := meetL_len (mRun LL k).1 LL[k]
        have hN4 := HN.out
        have hA2 := HA.out
        obtain ⟨p', q', e, -, -, hsA, -⟩ := SlV.of_owns HO.out
        cases e
        have hNl := hN4.lt
        have c3 := fun w' (h : Below wr.heap.size wr w') => impl_MeetOf (mRun LL k).1 LL[k] p q p2 q2 w' (hsA.below h) (hs2.below h) (by omega) (by omega)
        clear hsA hs2
        generalize hAe : (mRun LL k).1 = A at *
        generalize LL[k] = G at *
        generalize (mRun LL k).2 = r at *
        clear hAe
        go_wp2_with (first | (refine wpList_alloc_arr 26 [Value.slice none 0 0] zeroSg rfl rfl ?_) | (refine wpList_store_arr 26 (.tmp 7) (.tmp 18) wr.heap.size [Value.slice none 0 0] [.slice p2 G.length q2] rfl rfl rfl rfl (Arr.new wr 26 [Value.slice none 0 0]) rfl sizeSg (by simp [Value.oneCell']) ?_; intro w5 hN5 hg5 hz5; clear hz5; have hb5 := (box_below wr (.cells [Value.slice none 0 0].toArray 26)).grown hg5 (by simp) (fun k hk => by cases hk; exact Nat.le_refl _); have hc5 := hN5.cell 0; have hc4 := (hN4.below hb5).cell 0))
        refine (c3 w5 hb5).mono ?_
        rintro e w7 ⟨v, rfl, ho, hb7⟩
        obtain ⟨a3, k3, rfl, -⟩ := row_open ho
        have hz5 := hb5.size
        have hb57 := hb5.trans (hb7.mono hz5)
        have hbF := hbel.trans (hb57.mono hsz)
        have hN4F := hN4.below hb57
        have hA2F := hA2.below hb57
        have ho7 : w7.ownsRow (w.heap.size + 1) 3 1 (.slice a3 (meetL A G).length k3) (meetL A G).length ((meetL A G).map (Value.int .i64)) := ownsBase ho (by omega)
        have hne7 : (Value.slice a3 (meetL A G).length k3).ownBlock ≠ some w2.heap.size := fun e => by have := (ho.lt _ e).1; omega
        clear c3 ho hc5 hc4 hN5 hg5 hN4 hA2 hc2
        go_wp2_with (first | (refine wpList_store_arr 26 (.tmp 4) (.tmp 23) w2.heap.size [.slice p A.length q] [.slice a3 (meetL A G).length k3] rfl rfl rfl rfl hN4F rfl sizeSg (by simp [Value.oneCell']) ?_; intro w9 hN9 hg9 hz9; clear hz9))
        have hb9 := hbF.grown hg9 hbF.size (fun k hk => by cases hk; omega)
        have hA29 := hA2F.grown hg9 (fun e => by injection e with e; omega)
        have ho9 := ho7.kept hg9 (.inr hne7)
        have HO9 := Lib.hid ho9
        have HN9 := Lib.hid hN9
        have HA9 := Lib.hid hA29
        clear ho7 ho9 hA29 hN9 hA2F hN4F hg9
        go_roundw
        case rel => exact ⟨k + 1, a3, k3, by omega, by go_num, by rw [HNX.out], Lib.hid (by rw [HNX.out]; exact HN9.out), Lib.hid (by rw [HNX.out]; exact HO9.out), HA9, hb9⟩
        case measure => simp [intOf]; omega
      · have hlti : ¬ (k : Int) < (LL.length : Int) := by omega
        have hke : k = LL.length := by omega
        have HB : Hid (mAllB LL = (mRun LL k).2) := Lib.hid (by rw [(mAll_done hpos).1, ← hke])
        have HL : Hid (mAllL LL = (mRun LL k).1) := Lib.hid (by rw [(mAll_done hpos).2, ← hke])
        clear hke
        have hN4c := HN.out.cell 0
        have hA2 := HA.out
        generalize (mRun LL k).1 = A at *
        generalize (mRun LL k).2 = r at *
        go_wp2_with (first | (refine wpList_store_arr 26 (.tmp 2) (.tmp 26) w.heap.size [Value.slice none 0 0] [Value.slice p A.length q] rfl rfl rfl rfl hA2 rfl sizeSg (by simp [Value.oneCell']) ?_; intro w9 hA9 hg9 hz9; clear hz9))
        have hb9 := hbel.grown hg9 hbel.size (fun k hk => by cases hk; exact Nat.le_refl _)
        have ho9 := HO.out.kept hg9 (.inr (fun e => by have := (HO.out.lt _ e).1; omega))
        exact bodyPost_ret (results_arr_tmp rfl _ _ w.heap.size [Value.slice p A.length q] dS rfl hA9 hdS hrS sizeSg) rfl ⟨_, by rw [HB.out]; rfl, by rw [HL.out]; exact ownsBase ho9 (by omega), hb9⟩
end Go.Proofs.Ytfbfkaphcmngkaa
