/-
  CONTRACTS of the program's chapter 16: CanonicalGens. (Own work: mkI62.py.)
-/
import Derived.Test.YtopnehkhigacpaaGreatSgEx
import Derived.Test.YtopnehkhigacpaaGreatI37
import Derived.Test.YtopnehkhigacpaaGreatCh4I
import Derived.Test.YtopnehkhigacpaaGreatCh11M
namespace Go.Proofs.YtopnehkhigacpaaGreat
open Go Go.RowKit
attribute [local go_sem] Oper.semAt_some

theorem mult_bndX (G : List Int) : 0 ≤ multN G ∧ multN G ≤ 60 := by
  cases h : isSgB G
  · unfold multN; rw [h]; simp
  · obtain ⟨m, hm, -, h1, h2⟩ := multN_of h
    rw [hm]; omega
theorem frob_bndX (G : List Int) : -1 ≤ frobN G ∧ frobN G ≤ 200 := by
  have := condNat_le G
  unfold frobN
  split
  · split <;> omega
  · omega

set_option maxRecDepth 100000 in
set_option maxHeartbeats 1600000 in
theorem impl_CanonicalGens (G : List Int) (a : Option Addr) (cap : Nat) (w : World) (hr : SlV w a (G.map (Value.int .i64))) (hb : G.length ≤ 1048576) :
    Calls Tryz.prog 12 #[.agg #[.slice a G.length cap]] w (SlPost (canonL G) w) := by
  obtain ⟨i0, hi, hz0, hz1, hz2⟩ := info_parts infoIntL
  obtain ⟨V, hV⟩ : ∃ V, V = w.alloc (.cells #[.slice a G.length cap] 26) := ⟨_, rfl⟩
  have hbV : Below w.heap.size w V := by rw [hV]; exact box_below _ _
  have hc0 : V.cell? ⟨w.heap.size, 0, none⟩ = some (.slice a G.length cap) := by rw [hV]; exact box_cell w _
  have hVs : w.heap.size < V.heap.size := by rw [hV]; simp
  have HV := Lib.hid hV
  have HKV : Hid (∀ w2, Below V.heap.size V w2 → w2.cell? ⟨w.heap.size, 0, none⟩ = some (.slice a G.length cap)) := Lib.hid fun w2 h => (h.cell (p := ⟨w.heap.size, 0, none⟩) hVs).trans hc0
  clear hV
  have c1 := impl_FrobeniusOf G a cap V (hr.below hbV) hb
  have cm := fun W (h : Below V.heap.size V W) => impl_MultiplicityOf G a cap W (hr.below (hbV.trans (h.mono hbV.size))) hb
  have hmb : 0 ≤ multN G ∧ multN G ≤ 60 := mult_bndX G
  have cx := fun W (h : Below V.heap.size V W) => impl_ExceedingOf G (multN G) a cap W (hr.below (hbV.trans (h.mono hbV.size))) hb (by omega) (by omega)
  have HC := Lib.hid (canon_way G)
  have HEB := Lib.hid (exc_bndX (G := G) (n := multN G))
  have hEl : (excL G (multN G)).length ≤ 60 := by unfold excL; rw [List.length_map]; exact exc_len G (multN G)
  have hfb : -1 ≤ frobN G ∧ frobN G ≤ 200 := frob_bndX G
  have HK : Hid (∀ w2, Below V.heap.size V w2 → w2.cell? ⟨w.heap.size, 0, none⟩ = some (.slice a G.length cap) ∧ Below V.heap.size V w2) := Lib.hid fun w2 h => ⟨HKV.out w2 h, h⟩
  clear hr
  generalize excL G (multN G) = E at *
  generalize frobN G = fr at *
  go_enter Tryz.func12, Tryz.ntmps12
  go_wp2_with fail
  rw [← HV.out]
  refine c1.mono ?_
  rintro e w1 ⟨rfl, hb1⟩
  have hS0 := HK.out _ hb1.drew
  clear c1 hc0
  go_wp2_with fail
  refine wp_region_held_drew (S := fun w' => w'.cell? ⟨w.heap.size, 0, none⟩ = some (.slice a G.length cap) ∧ Below V.heap.size V w') (by kernel_rfl) hS0 (fun hHeld => ?_)
  refine held_take 0 _ _ rfl (by kernel_rfl) (by kernel_rfl) (by kernel_rfl) (fun _ _ _ h => h) (by rfl) hHeld (fun w hSw => by (try dsimp only at hSw); go_simp; try with_reducible rfl) ?_
  (try simp only [Act.put, List.setIfInBounds_toArray, List.set_cons_zero, List.set_cons_succ, List.getElem_toArray, List.getElem_cons_zero])
  refine held_take 1 _ _ rfl (by kernel_rfl) (by kernel_rfl) (by kernel_rfl) (fun _ _ _ h => h) (by rfl) hHeld (fun w hSw => by (try dsimp only at hSw); go_simp; try with_reducible rfl) ?_
  (try simp only [Act.put, List.setIfInBounds_toArray, List.set_cons_zero, List.set_cons_succ, List.getElem_toArray, List.getElem_cons_succ, List.getElem_cons_zero])
  refine held_take 5 _ _ rfl (by kernel_rfl) (by kernel_rfl) (by kernel_rfl) (fun _ _ _ h => h) (by rfl) hHeld (fun w hSw => by (try dsimp only at hSw); go_simp; try with_reducible rfl) ?_
  (try simp only [Act.put, List.setIfInBounds_toArray, List.set_cons_zero, List.set_cons_succ, List.getElem_toArray, List.getElem_cons_succ, List.getElem_cons_zero])
  refine wpAnyH_ready (rs := [2]) (by kernel_rfl) (by simp) ?_
  refine AllReadyH.cons rfl (fun K hK => ?_) AllReadyH.nil
  rw [if_pos (by rfl)]
  go_wp2_with (first | (go_at_call 37; (with_reducible refine (cm _ hHeld.2).mono ?_); rintro e w4 ⟨rfl, hb4⟩))
  refine hK.out _ _ (HK.out _ ((hHeld).2.trans (hb4.mono (hHeld).2.size))) (fun hHeld1 => ?_)
  clear hK K
  (try simp only [Act.put, List.setIfInBounds_toArray, List.set_cons_zero, List.set_cons_succ, List.getElem_toArray, List.getElem_cons_succ, List.getElem_cons_zero])
  refine wpAnyH_ready (rs := [3]) (by kernel_rfl) (by simp) ?_
  refine AllReadyH.cons rfl (fun K hK => ?_) AllReadyH.nil
  rw [if_pos (by rfl)]
  go_wp2_with (first | (go_at_call 36; (with_reducible refine (cx _ hHeld1.2).mono ?_); rintro e w5 ⟨v5, rfl, ho5, hb5⟩; obtain ⟨a5, k5, rfl, rX⟩ := row_open ho5; have hzp := (hHeld1).2.size))
  refine hK.out _ _ (HK.out _ ((hHeld1).2.trans (hb5.mono (hHeld1).2.size))) (fun hHeld2 => ?_)
  clear hK K
  (try simp only [Act.put, List.setIfInBounds_toArray, List.set_cons_zero, List.set_cons_succ, List.getElem_toArray, List.getElem_cons_succ, List.getElem_cons_zero])
  refine held_take 4 _ _ rfl (by kernel_rfl) (by kernel_rfl) (by kernel_rfl) (fun _ _ _ h => h) (by rfl) hHeld2 (fun w hSw => by (try dsimp only at hSw); go_simp; try with_reducible rfl) ?_
  (try simp only [Act.put, List.setIfInBounds_toArray, List.set_cons_zero, List.set_cons_succ, List.getElem_toArray, List.getElem_cons_succ, List.getElem_cons_zero])
  refine wpAnyH_done (by kernel_rfl) ?_ _
  have hbF := hbV.trans ((hHeld2).2.mono hbV.size)
  have hB0 : Beside1 w _ _ E a5 k5 _ (.slice none 0 0) [] := ⟨World.ownsRow_nil _ _ _ _, fun b hb => by simp [Value.ownBlock] at hb, rX, hbF⟩
  have HB0 := Lib.hid hB0
  clear hB0 rX ho5 hS0 hbF hzp
  go_wp2_with fail
  go_loopw [4, 14] (fun v i wr => ∃ k : Nat, k ≤ E.length ∧ i = .int .i64 (k : Int) ∧ Beside1 w _ _ E a5 k5 wr v ((E.take k).map fun x => fr - x)) (fun _ i _ => E.length - (intOf i).toNat)
  case atStart => exact ⟨0, Nat.zero_le _, rfl, HB0.out⟩
  case round =>
    clear HB0
    obtain ⟨k, hk, rfl, hB⟩ := hrel
    have hsz := hB.bel.size
    by_cases hlt : k < E.length
    · have hlti : (k : Int) < (E.length : Int) := by omega
      obtain ⟨b, o, rfl, hbs, hne, hcs⟩ := hB.at (by intro h; subst h; simp at hlt)
      have hcell := hcs k hlt
      have hxb := HEB.out E[k] (List.getElem_mem hlt)
      have HT : Hid ((E.take (k + 1)).map (fun x => fr - x) = (E.take k).map (fun x => fr - x) ++ [fr - E[k]]) := Lib.hid (by rw [List.take_add_one, List.getElem?_eq_getElem hlt, List.map_append]; rfl)
      have hMl : ((E.take k).map fun x => fr - x).length ≤ k := by rw [List.length_map, List.length_take]; omega
      clear hcs
      generalize E[k] = x at *
      generalize ((E.take k).map fun x => fr - x) = M at *
      have hw1 : IntKind.i64.wrap (fr - x) = fr - x := IntWalk.i64_in _ (by omega)
      have HB := Lib.hid hB
      have hown := hB.own
      clear hB
      go_wp2_with (at_builtin; refine wpList_append_own_at _ rfl _ _ 24 rfl w.heap.size 3 i0 (Value.int .i64 0) 1 8 Tryz.underlying24 hi hz0 hz1 hz2 rfl (by decide) _ _ _ rfl (hown.alloc _) ⟨_, 0, none⟩ 1 1 [.int .i64 (fr - x)] rfl rfl (World.news_of_block (cs := #[.int .i64 (fr - x)]) (t := 3) (fr := (0, 0)) (heap_alloc_new _ _)) (by simp [Value.oneCell']) (by unfold maxLen; omega) (by omega) (by simp; omega) ?_; intro v2 w2 hown2 hgrow2 _ hat2)
      have HB2 := Lib.hid (HB.out.grow _ (fr - x) hown2 hgrow2 hat2)
      clear hown hown2 hgrow2 hat2 HB hcell hne hbs
      go_wp2_with fail
      go_roundw
      case rel => exact ⟨k + 1, by omega, by go_num, by rw [HT.out]; exact HB2.out⟩
      case measure => simp [intOf]; omega
    · obtain rfl : k = E.length := by omega
      rw [List.take_of_length_le (Nat.le_refl _)] at hB
      have hs := impl_sortOnce w.heap.size _ _ wr hB.own (by rw [List.length_map]; omega) hsz
      rw [← HC.out] at hs
      have hbel := hB.bel
      clear hB
      go_wp2_with fail
      refine hs.mono ?_
      rintro e w2 ⟨u, rfl, ho, hb2⟩
      have HO := Lib.hid ho
      have hb3 := hbel.trans hb2
      clear hs ho
      go_wp2_with fail
      go_ret
      exact ⟨_, rfl, HO.out, hb3⟩
end Go.Proofs.YtopnehkhigacpaaGreat
