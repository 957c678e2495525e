/-
  CONTRACTS of chapter 11: FactorText (spec). (Own work: mkFT.py.)
-/
import Derived.Test.YtlinlmmcgifloaaDoorCh11L
import Derived.Test.YtlinlmmcgifloaaDoorSgFT
import Derived.Test.YtlinlmmcgifloaaDoorCh11M
import Derived.Test.YtlinlmmcgifloaaDoorSgL
import Derived.WalkMore
namespace Go.Proofs.YtlinlmmcgifloaaDoor
open Go Go.RowKit

set_option maxRecDepth 100000 in
set_option maxHeartbeats 1600000 in
theorem spec_FactorText (G L : List Int) (a : Option Addr) (cap : Nat) (al : Option Addr) (cl : Nat) (w : World) (hr : SlV w a (G.map (Value.int .i64))) (hrl : SlV w al (L.map (Value.int .i64))) (hb : G.length ≤ 1048576) (hbl : L.length ≤ 1048576) :
    Calls Tryd.prog 19 #[.agg #[.slice a G.length cap], .slice al L.length cl] w fun e w' => e = .returned (.string (factText G L)) ∧ Below w.heap.size w w' := by
  obtain ⟨i0, hi, hz0, hz1, hz2⟩ := info_parts infoStrL
  obtain ⟨W, hW⟩ : ∃ W, W = w.alloc (.cells #[.slice a G.length cap] 26) := ⟨_, rfl⟩
  have hbW : Below w.heap.size w W := by rw [hW]; exact box_below _ _
  have hc0 : W.cell? ⟨w.heap.size, 0, none⟩ = some (.slice a G.length cap) := by rw [hW]; exact box_cell w _
  have hWs : w.heap.size < W.heap.size := by rw [hW]; simp
  have HW := Lib.hid hW
  clear hW
  have c1 := spec_ValueOf G L a cap al cl W (hr.below hbW) (hrl.below hbW) hb hbl
  by_cases hv : valueN G L < 0
  · have HR := Lib.hid (factText_no hv)
    have hd : decide (valueN G L < 0) = true := decide_eq_true hv
    clear hr hrl hv hi hz0 hz1 hz2
    generalize valueN G L = z at *
    go_enter Tryd.func19, Tryd.ntmps19
    go_wp2_with fail
    rw [← HW.out]
    refine c1.mono ?_
    rintro e w1 ⟨rfl, hb1⟩
    have hb01 := hbW.trans (hb1.mono hbW.size)
    go_wp2_with fail
    go_ret
    exact ⟨by rw [HR.out]; rfl, hb01⟩
  · obtain ⟨hs, hl, hL⟩ := valueN_facts hv
    have hd : decide (valueN G L < 0) = false := decide_eq_false hv
    have hS := isSgB_iff.1 hs
    have h12 := hS.len
    have h01 : 0 < G.length := (okG_iff.1 hS.ok).2.1
    have HN := Lib.hid (fun (h : partsT L G = []) => factText_nil hv h)
    have HY := Lib.hid (fun (h : partsT L G ≠ []) => factText_yes hv h)
    have HG := Lib.hid hS.bounds
    have HL := Lib.hid hL
    have HLL := Lib.hid hl
    have hl1 := Nat.le_of_eq hl
    have hl2 := Nat.le_of_eq hl.symm
    have HSZ := Lib.hid (partsT_sizes L G hL fun g hg => by have := hS.bounds g hg; omega)
    have HPL := Lib.hid (partsT_len L G)
    obtain ⟨bg, og, rfl, hbg, hcg⟩ := hr.open (by intro h; rw [List.map_eq_nil_iff] at h; subst h; simp at h01)
    obtain ⟨bl, ol, rfl, hbl', hcl⟩ := hrl.open (by intro h; rw [List.map_eq_nil_iff] at h; rw [h, List.length_nil] at hl2; omega)
    have HK : Hid (∀ (k : Nat) (hk : k < L.length) (hk2 : k < G.length) w2, Below W.heap.size W w2 → w2.cell? ⟨bl, ol + k, none⟩ = some (.int .i64 L[k]) ∧ w2.cell? ⟨w.heap.size, 0, none⟩ = some (.slice (some ⟨bg, og, none⟩) G.length cap) ∧ w2.cell? ⟨bg, og + k, none⟩ = some (.int .i64 G[k]) ∧ Below W.heap.size W w2) := Lib.hid fun k hk hk2 w2 h =>
      ⟨((hbW.trans (h.mono hbW.size)).cell (p := ⟨bl, ol + k, none⟩) hbl').trans (hcl k _ (by simp [hk])), (h.cell (p := ⟨w.heap.size, 0, none⟩) hWs).trans hc0, ((hbW.trans (h.mono hbW.size)).cell (p := ⟨bg, og + k, none⟩) hbg).trans (hcg k _ (by simp [hk2])), h⟩
    clear hv hs hl hL hS hr hrl hcg hcl hc0
    generalize valueN G L = z at *
    go_enter Tryd.func19, Tryd.ntmps19
    go_wp2_with fail
    rw [← HW.out]
    refine c1.mono ?_
    rintro e w1 ⟨rfl, hb1⟩
    have hb11 := hb1
    clear hb1 c1
    go_wp2_with fail
    have hown0 : (w1.alloc (.cells #[] 9)).ownsRow W.heap.size 9 1 (.slice (some ⟨w1.heap.size, 0, none⟩) 0 0) 0 [] := World.ownsRow_lit w1 #[] 0 hb11.size (by simp) rfl
    have hbel0 : Below W.heap.size W (w1.alloc (.cells #[] 9)) := hb11.alloc hb11.size _
    go_loopw [5, 6] (fun v i wr => ∃ k : Nat, k ≤ L.length ∧ i = .int .i64 (k : Int) ∧ wr.ownsRow W.heap.size 9 1 v (partsT (L.take k) (G.take k)).length ((partsT (L.take k) (G.take k)).map Value.string) ∧ Below W.heap.size W wr) (fun _ i _ => L.length - (intOf i).toNat)
    case atStart => exact ⟨0, Nat.zero_le _, rfl, hown0, hbel0⟩
    case round =>
      clear hb11 hown0 hbel0
      obtain ⟨k, hk, rfl, hown, hbel⟩ := hrel
      have hsz := hbel.size
      by_cases hlt : k < L.length
      · have hk2 : k < G.length := by omega
        obtain ⟨hc1, hc2, hc3, -⟩ := HK.out k hlt hk2 wr hbel
        have HS2 := Lib.hid (HK.out k hlt hk2)
        have HT := Lib.hid (partsT_take HLL.out hlt)
        obtain ⟨x0, x1⟩ := HL.out L[k] (List.getElem_mem hlt)
        obtain ⟨g0, g1⟩ := HG.out G[k] (List.getElem_mem hk2)
        have hpl : (partsT (L.take k) (G.take k)).length ≤ k := Nat.le_trans (partsT_len _ _) (by rw [List.length_take]; omega)
        have hlti : (k : Int) < (L.length : Int) := by omega
        have hlti2 : (k : Int) < (G.length : Int) := by omega
        have hk0 : (0 : Int) ≤ (k : Int) := by omega
        generalize L[k] = x at *
        generalize G[k] = g at *
        generalize partsT (L.take k) (G.take k) = M at *
        by_cases hx : 0 < x
        · rw [if_pos hx] at HT
          have hdx : decide (0 < x) = true := decide_eq_true hx
          have hn1 := numeral_size x (by omega) (by omega)
          have hn2 := numeral_size g (by omega) (by omega)
          have HP : Hid (partT x g = numeral x ++ ⟨#[42]⟩ ++ numeral g) := Lib.hid rfl
          have cx := fun w => (show Calls Tryd.prog 37 #[.int .i64 x] w fun e w' => e = .returned (.string (numeral x)) ∧ Below w.heap.size w w' from spec_FormatInt x (by omega) (by omega) w)
          have cg := fun w => (show Calls Tryd.prog 37 #[.int .i64 g] w fun e w' => e = .returned (.string (numeral g)) ∧ Below w.heap.size w w' from spec_FormatInt g (by omega) (by omega) w)
          generalize numeral x = A at *
          generalize numeral g = B at *
          have hsA1 : (9223372036854775807 < A.size + 1) = False := by rw [eq_iff_iff, iff_false]; omega
          have hsA2 : (9223372036854775807 < A.size + 1 + B.size) = False := by rw [eq_iff_iff, iff_false]; omega
          have hownD : wr.drew.ownsRow W.heap.size 9 1 _ M.length (M.map Value.string) := hown
          have hS0 := HS2.out _ hbel.drew
          clear hown hc2 hc3
          go_wp2_with fail
          refine wp_region_held_drew (S := fun w' => w'.cell? ⟨bl, ol + k, none⟩ = some (.int .i64 x) ∧ w'.cell? ⟨w.heap.size, 0, none⟩ = some (.slice (some ⟨bg, og, none⟩) G.length cap) ∧ w'.cell? ⟨bg, og + k, none⟩ = some (.int .i64 g) ∧ Below W.heap.size W w') (by kernel_rfl) hS0 (fun hHeld => ?_)
          refine held_take 0 _ _ rfl (by kernel_rfl) (by kernel_rfl) (by kernel_rfl) (fun _ _ _ h => h) (by rfl) hHeld (fun w hSw => by (try dsimp only at hSw); go_simp; try with_reducible rfl) ?_
          (try simp only [Act.put, List.setIfInBounds_toArray, List.set_cons_zero, List.set_cons_succ, List.getElem_toArray, List.getElem_cons_zero])
          refine held_take 1 _ _ rfl (by kernel_rfl) (by kernel_rfl) (by kernel_rfl) (fun _ _ _ h => h) (by rfl) hHeld (fun w hSw => by (try dsimp only at hSw); go_simp; try with_reducible rfl) ?_
          (try simp only [Act.put, List.setIfInBounds_toArray, List.set_cons_zero, List.set_cons_succ, List.getElem_toArray, List.getElem_cons_succ, List.getElem_cons_zero])
          refine held_take 2 _ _ rfl (by kernel_rfl) (by kernel_rfl) (by kernel_rfl) (fun _ _ _ h => h) (by rfl) hHeld (fun w hSw => by (try dsimp only at hSw); go_simp; try with_reducible rfl) ?_
          (try simp only [Act.put, List.setIfInBounds_toArray, List.set_cons_zero, List.set_cons_succ, List.getElem_toArray, List.getElem_cons_succ, List.getElem_cons_zero])
          refine held_take 3 _ _ rfl (by kernel_rfl) (by kernel_rfl) (by kernel_rfl) (fun _ _ _ h => h) (by rfl) hHeld (fun w hSw => by (try dsimp only at hSw); go_simp; try with_reducible rfl) ?_
          (try simp only [Act.put, List.setIfInBounds_toArray, List.set_cons_zero, List.set_cons_succ, List.getElem_toArray, List.getElem_cons_succ, List.getElem_cons_zero])
          refine held_take 4 _ _ rfl (by kernel_rfl) (by kernel_rfl) (by kernel_rfl) (fun _ _ _ h => h) (by rfl) hHeld (fun w hSw => by (try dsimp only at hSw); go_simp; try with_reducible rfl) ?_
          (try simp only [Act.put, List.setIfInBounds_toArray, List.set_cons_zero, List.set_cons_succ, List.getElem_toArray, List.getElem_cons_succ, List.getElem_cons_zero])
          refine held_take 7 _ _ rfl (by kernel_rfl) (by kernel_rfl) (by kernel_rfl) (fun _ _ _ h => h) (by rfl) hHeld (fun w hSw => by (try dsimp only at hSw); go_simp; try with_reducible rfl) ?_
          (try simp only [Act.put, List.setIfInBounds_toArray, List.set_cons_zero, List.set_cons_succ, List.getElem_toArray, List.getElem_cons_succ, List.getElem_cons_zero])
          refine held_take 8 _ _ rfl (by kernel_rfl) (by kernel_rfl) (by kernel_rfl) (fun _ _ _ h => h) (by rfl) hHeld (fun w hSw => by (try dsimp only at hSw); go_simp; try with_reducible rfl) ?_
          (try simp only [Act.put, List.setIfInBounds_toArray, List.set_cons_zero, List.set_cons_succ, List.getElem_toArray, List.getElem_cons_succ, List.getElem_cons_zero])
          refine held_take 9 _ _ rfl (by kernel_rfl) (by kernel_rfl) (by kernel_rfl) (fun _ _ _ h => h) (by rfl) hHeld (fun w hSw => by (try dsimp only at hSw); go_simp; try with_reducible rfl) ?_
          (try simp only [Act.put, List.setIfInBounds_toArray, List.set_cons_zero, List.set_cons_succ, List.getElem_toArray, List.getElem_cons_succ, List.getElem_cons_zero])
          refine held_take 10 _ _ rfl (by kernel_rfl) (by kernel_rfl) (by kernel_rfl) (fun _ _ _ h => h) (by rfl) hHeld (fun w hSw => by (try dsimp only at hSw); go_simp; try with_reducible rfl) ?_
          (try simp only [Act.put, List.setIfInBounds_toArray, List.set_cons_zero, List.set_cons_succ, List.getElem_toArray, List.getElem_cons_succ, List.getElem_cons_zero])
          refine held_take 11 _ _ rfl (by kernel_rfl) (by kernel_rfl) (by kernel_rfl) (fun _ _ _ h => h) (by rfl) hHeld (fun w hSw => by (try dsimp only at hSw); go_simp; try with_reducible rfl) ?_
          (try simp only [Act.put, List.setIfInBounds_toArray, List.set_cons_zero, List.set_cons_succ, List.getElem_toArray, List.getElem_cons_succ, List.getElem_cons_zero])
          refine wpAnyH_ready (rs := [5]) (by kernel_rfl) (by simp) ?_
          refine AllReadyH.cons rfl (fun K hK => ?_) AllReadyH.nil
          rw [if_pos (by rfl)]
          go_wp2_with (first | (go_at_call 37; (with_reducible refine (cx _).mono ?_); rintro e wA ⟨rfl, hbA⟩; have hownA := owns_below hownD hbA))
          refine hK.out _ _ (HS2.out _ ((hHeld).2.2.2.trans (hbA.mono (hHeld).2.2.2.size))) (fun hHeld1 => ?_)
          clear hK K
          (try simp only [Act.put, List.setIfInBounds_toArray, List.set_cons_zero, List.set_cons_succ, List.getElem_toArray, List.getElem_cons_succ, List.getElem_cons_zero])
          refine held_take 6 _ _ rfl (by kernel_rfl) (by kernel_rfl) (by kernel_rfl) (fun _ _ _ h => h) (by rfl) hHeld1 (fun w hSw => by (try dsimp only at hSw); go_simp; try with_reducible rfl) ?_
          (try simp only [Act.put, List.setIfInBounds_toArray, List.set_cons_zero, List.set_cons_succ, List.getElem_toArray, List.getElem_cons_succ, List.getElem_cons_zero])
          refine wpAnyH_ready (rs := [12]) (by kernel_rfl) (by simp) ?_
          refine AllReadyH.cons rfl (fun K hK => ?_) AllReadyH.nil
          rw [if_pos (by rfl)]
          go_wp2_with (first | (go_at_call 37; (with_reducible refine (cg _).mono ?_); rintro e wB ⟨rfl, hbB⟩; have hownB := owns_below hownA hbB))
          refine hK.out _ _ (HS2.out _ ((hHeld1).2.2.2.trans (hbB.mono (hHeld1).2.2.2.size))) (fun hHeld2 => ?_)
          clear hK K
          (try simp only [Act.put, List.setIfInBounds_toArray, List.set_cons_zero, List.set_cons_succ, List.getElem_toArray, List.getElem_cons_succ, List.getElem_cons_zero])
          refine held_take 13 _ _ rfl (by kernel_rfl) (by kernel_rfl) (by kernel_rfl) (fun _ _ _ h => h) (by rfl) hHeld2 (fun w hSw => by (try dsimp only at hSw); go_simp; try with_reducible rfl) ?_
          (try simp only [Act.put, List.setIfInBounds_toArray, List.set_cons_zero, List.set_cons_succ, List.getElem_toArray, List.getElem_cons_succ, List.getElem_cons_zero])
          refine wpAnyH_ready (rs := [14]) (by kernel_rfl) (by simp) ?_
          refine AllReadyH.cons rfl (fun K hK => ?_) AllReadyH.nil
          rw [if_pos (by rfl)]
          have hownC := hownB.alloc (.cells #[.string (A ++ ⟨#[42]⟩ ++ B)] 9)
          have hszC := ((hHeld2).2.2.2.alloc (hHeld2).2.2.2.size (.cells #[.string (A ++ ⟨#[42]⟩ ++ B)] 9)).size
          go_wp2_with fail
          refine hK.out _ _ (HS2.out _ ((hHeld2).2.2.2.alloc (hHeld2).2.2.2.size _)) (fun hHeld3 => ?_)
          clear hK K
          (try simp only [Act.put, List.setIfInBounds_toArray, List.set_cons_zero, List.set_cons_succ, List.getElem_toArray, List.getElem_cons_succ, List.getElem_cons_zero])
          refine wpAnyH_ready (rs := [15]) (by kernel_rfl) (by simp) ?_
          refine AllReadyH.cons rfl (fun K hK => ?_) AllReadyH.nil
          rw [if_pos (by rfl)]
          refine wp_append_own_at _ (.tmp 23) (.tmp 37) 53 (by rfl) W.heap.size 9 i0 (Value.string ByteArray.empty) 1 16 Tryd.underlying53 hi hz0 hz1 hz2 rfl (by decide) _ M.length (M.map Value.string) (by rfl) hownC _ 1 _ [.string (A ++ ⟨#[42]⟩ ++ B)] (by rfl) rfl (World.news_of_block (cs := #[.string (A ++ ⟨#[42]⟩ ++ B)]) (t := 9) (fr := (0, 0)) (heap_alloc_new _ _)) (by simp [Value.oneCell']) (by unfold maxLen; omega) (by omega) hszC ?_; intro v2 w2 hown2 hg2 _ _
          refine hK.out _ _ (HS2.out _ ((hHeld3).2.2.2.grown hg2 hszC (fun j hj => (hownC.lt j hj).1))) (fun hHeld4 => ?_)
          clear hK K
          (try simp only [Act.put, List.setIfInBounds_toArray, List.set_cons_zero, List.set_cons_succ, List.getElem_toArray, List.getElem_cons_succ, List.getElem_cons_zero])
          refine held_take 16 _ _ rfl (by kernel_rfl) (by kernel_rfl) (by kernel_rfl) (fun _ _ _ h => h) (by rfl) hHeld4 (fun w hSw => by (try dsimp only at hSw); go_simp; try with_reducible rfl) ?_
          (try simp only [Act.put, List.setIfInBounds_toArray, List.set_cons_zero, List.set_cons_succ, List.getElem_toArray, List.getElem_cons_succ, List.getElem_cons_zero])
          refine wpAnyH_done (by kernel_rfl) ?_ _
          have hbF := (hHeld4).2.2.2
          have HO : Hid (w2.ownsRow W.heap.size 9 1 v2 (M ++ [A ++ ⟨#[42]⟩ ++ B]).length ((M ++ [A ++ ⟨#[42]⟩ ++ B]).map Value.string)) := Lib.hid (by simpa using hown2)
          clear hownA hownB hownC hownD hown2 hg2 hszC hS0 cx cg hc1 hbA hbB
          go_wp2_with fail
          go_roundw
          case rel => exact ⟨k + 1, by omega, by go_num, by rw [HT.out, HP.out]; exact HO.out, hbF⟩
          case measure => simp [intOf]; omega
        · rw [if_neg hx, List.append_nil] at HT
          have hdx : decide (0 < x) = false := decide_eq_false hx
          have HO := Lib.hid hown
          clear hown hx
          go_wp2_with fail
          go_roundw
          case rel => exact ⟨k + 1, by omega, by go_num, by rw [HT.out]; exact HO.out, hbel⟩
          case measure => simp [intOf]; omega
      · obtain rfl : k = L.length := by omega
        have HGT : Hid (G.take L.length = G) := Lib.hid (List.take_of_length_le (by omega))
        rw [List.take_of_length_le (Nat.le_refl _), HGT.out] at hown
        have hpl : (partsT L G).length ≤ 12 := Nat.le_trans HPL.out (by omega)
        have hps : sizes (partsT L G) ≤ 516 := Nat.le_trans HSZ.out (by omega)
        by_cases hp : partsT L G = []
        · have HR := Lib.hid (HN.out hp)
          rw [hp] at hown
          have hz : ((([] : List ByteArray).length : Int) == 0) = true := rfl
          obtain ⟨a2, c2, rfl, -⟩ := SlV.of_owns hown
          clear hp hown hpl hps
          go_wp2_with fail
          go_ret
          exact ⟨by rw [HR.out]; rfl, hbW.trans (hbel.mono hbW.size)⟩
        · have HR := Lib.hid (HY.out hp)
          have hz : (((partsT L G).length : Int) == 0) = false := by rw [beq_eq_false_iff_ne]; intro h; exact hp (List.eq_nil_of_length_eq_zero (by omega))
          obtain ⟨a2, c2, rfl, hl2, hcap2, hs2, -⟩ := SlV.of_owns hown
          have cj := spec_JoinW (partsT L G) ⟨#[43]⟩ a2 c2 wr hs2 (by omega) (by omega) (by decide)
          rw [← HR.out] at cj
          clear hp hown hs2 hps hl2
          generalize (partsT L G).length = m at *
          go_wp2_with fail
          refine cj.mono ?_
          rintro e w2 ⟨rfl, hb2⟩
          clear cj
          go_wp2_with fail
          go_ret
          exact ⟨rfl, (hbW.trans (hbel.mono hbW.size)).trans (hb2.mono (Nat.le_trans hbW.size hbel.size))⟩
end Go.Proofs.YtlinlmmcgifloaaDoor
