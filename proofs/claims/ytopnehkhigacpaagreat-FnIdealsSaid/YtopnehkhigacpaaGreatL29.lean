/-
  CHAPTER 9 OF THE REFERENCE: PseudoFrobenius, TypeOf. (Own work.)
-/
import Derived.Test.YtopnehkhigacpaaGreatSgS
import Derived.Test.YtopnehkhigacpaaGreatCh4L
import Derived.Test.YtopnehkhigacpaaGreatL19
import Derived.Test.YtopnehkhigacpaaGreatHta
namespace Go.Proofs.YtopnehkhigacpaaGreat
open Go Go.RowKit

theorem gapsL_bnd {G : List Int} : ∀ x ∈ gapsL G, 0 ≤ x ∧ x ≤ 199 := by
  intro x hx
  unfold gapsL at hx
  split at hx
  · obtain ⟨n, hn, rfl⟩ := List.mem_map.1 hx
    have := (mem_upB.1 hn).1
    exact ⟨Int.natCast_nonneg n, by simp only [Int.ofNat_eq_natCast]; omega⟩
  · cases hx
theorem gapsL_sg {G : List Int} (h : gapsL G ≠ []) : isSgB G = true := by
  cases hs : isSgB G
  · exact absurd (gapsL_no hs) h
  · rfl
theorem keep93 {W wr w1 : World} {b1 b2 b3 o2 o3 : Nat} {v1 v2 v3 : Value} (h1 : b1 < W.heap.size) (h2 : b2 < W.heap.size) (h3 : b3 < W.heap.size)
    (h : wr.cell? ⟨b1, 0, none⟩ = some v1 ∧ wr.cell? ⟨b2, o2, none⟩ = some v2 ∧ wr.cell? ⟨b3, o3, none⟩ = some v3 ∧ Below W.heap.size W wr) (hb : Below wr.heap.size wr w1) : w1.cell? ⟨b1, 0, none⟩ = some v1 ∧ w1.cell? ⟨b2, o2, none⟩ = some v2 ∧ w1.cell? ⟨b3, o3, none⟩ = some v3 ∧ Below W.heap.size W w1 := by
  obtain ⟨e1, e2, e3, hB⟩ := h
  have hs := hB.size
  exact ⟨(hb.cell (p := ⟨b1, 0, none⟩) (Nat.lt_of_lt_of_le h1 hs)).trans e1, (hb.cell (p := ⟨b2, o2, none⟩) (Nat.lt_of_lt_of_le h2 hs)).trans e2, (hb.cell (p := ⟨b3, o3, none⟩) (Nat.lt_of_lt_of_le h3 hs)).trans e3, hB.trans (hb.mono hs)⟩
set_option maxRecDepth 100000 in
set_option maxHeartbeats 3200000 in
theorem spec_PseudoFrobenius (G : List Int) (a : Option Addr) (cap : Nat) (w : World) (hr : SlV w a (G.map (Value.int .i64))) (hb : G.length ≤ 1048576) :
    Calls Tryz.prog 48 #[.agg #[.slice a G.length cap]] w (SlPost (psfL G) w) := by
  obtain ⟨i0, hi, hz0, hz1, hz2⟩ := info_parts infoIntL
  obtain ⟨W, hW⟩ : ∃ W, W = w.alloc (.cells #[.slice a G.length cap] 26) := ⟨_, rfl⟩
  have hbW : Below w.heap.size w W := by rw [hW]; exact box_below _ _
  have hc0 : W.cell? ⟨w.heap.size, 0, none⟩ = some (.slice a G.length cap) := by rw [hW]; exact box_cell w _
  have hWs : w.heap.size < W.heap.size := by rw [hW]; simp
  have hWz : W.heap.size = w.heap.size + 1 := by rw [hW]; simp
  have HW := Lib.hid hW
  clear hW
  have hown0 : (W.alloc (.cells #[] 3)).ownsRow (w.heap.size + 1) 3 1 (.slice (some ⟨W.heap.size, 0, none⟩) 0 0) 0 [] := World.ownsRow_lit W #[] 0 (Nat.le_of_eq hWz.symm) (by simp) rfl
  rw [hWz] at hown0
  have hbel0 := hbW.alloc (o := .cells #[] 3) hbW.size
  have hcA : (W.alloc (.cells #[] 3)).cell? ⟨w.heap.size, 0, none⟩ = some (.slice a G.length cap) := (World.cell?_alloc_lt W _ ⟨w.heap.size, 0, none⟩ hWs).trans hc0
  have c1 := spec_Gaps G a cap (W.alloc (.cells #[] 3)) (hr.below hbel0) hb
  have hz : w.heap.size < (W.alloc (.cells #[] 3)).heap.size := by simp; omega
  have hz' : w.heap.size + 1 < (W.alloc (.cells #[] 3)).heap.size := by simp; omega
  have HT := Lib.hid (psfL_way G)
  have HG : Hid (gapsL G ≠ [] → ∀ g ∈ G, 1 ≤ g ∧ g ≤ 60) := Lib.hid fun h => (isSgB_iff.1 (gapsL_sg h)).bounds
  have HQ : Hid (∀ x, fineB G x = G.all fun g => !hasB (gapsL G) (x + g)) := Lib.hid fun _ => rfl
  have HP := Lib.hid (gapsL_bnd (G := G))
  have hlen := gapsL_length_le G
  go_enter Tryz.func48, Tryz.ntmps48
  go_wp2_with fail
  rw [← HW.out]
  refine c1.mono ?_
  rintro e w1 ⟨v1, rfl, ho1, hb1⟩
  generalize gapsL G = P at *
  obtain ⟨ag, k1, rfl, rX⟩ := row_open ho1
  have hown1 := owns_below hown0 hb1
  have hbel1 := hbel0.trans (hb1.mono hbel0.size)
  have hc1 : w1.cell? ⟨w.heap.size, 0, none⟩ = some (.slice a G.length cap) := (hb1.cell (p := ⟨w.heap.size, 0, none⟩) hz).trans hcA
  have hz1 := Nat.lt_of_lt_of_le hz hb1.size
  have hS1 := rX.slv
  by_cases hP : P = []
  · have HE := Lib.hid (show psfL G = [] by rw [HT.out, hP]; rfl)
    have hl0 : P.length = 0 := by rw [hP]; rfl
    have HL := Lib.hid hl0
    clear hP hl0 ho1 rX hS1 hc1 hz1 hz hz' hcA hown0 hbel0 hb1 c1 hr hc0 hbW hWs
    go_wp2_with fail
    go_loopw [3, 5] (fun v i wr => v = .slice (some ⟨w.heap.size + 1, 0, none⟩) 0 0 ∧ i = .int .i64 0 ∧ wr = w1) (fun _ _ _ => 1)
    case atStart => exact ⟨rfl, rfl, rfl⟩
    case round =>
      obtain ⟨rfl, rfl, rfl⟩ := hrel
      have hd : decide ((0 : Int) < (P.length : Int)) = false := decide_eq_false (by rw [HL.out]; omega)
      have hd2 : decide (0 < P.length) = false := decide_eq_false (by rw [HL.out]; omega)
      go_wp2_with fail
      go_ret
      exact ⟨_, rfl, by rw [HE.out]; exact owns_wider hown1 (Nat.le_succ _), hbel1⟩
  · have HGG := Lib.hid (HG.out hP)
    obtain ⟨g2, off2, rfl, hg2, hcl⟩ := hS1.open (by intro h; rw [List.map_eq_nil_iff] at h; exact hP h)
    have hge := (ho1.lt g2 rfl).1
    have HC := Lib.hid hcl
    have hq0 : w.heap.size + 1 ≠ g2 := by omega
    have hrW := hr
    clear HG hP ho1 rX hS1 hcl hz hcA hown0 hbel0 hb1 c1 hc0 hbW hWs hge hz'
    go_wp2_with fail
    go_loopw [3, 5] (fun v i wr => ∃ (k q c : Nat) (M : List Int), k ≤ P.length ∧ i = .int .i64 (k : Int) ∧ Hid (M = (P.take k).filter (fineB G)) ∧ M.length ≤ k ∧ v = .slice (some ⟨q, 0, none⟩) M.length c ∧
        wr.ownsRow (w.heap.size + 1) 3 1 (.slice (some ⟨q, 0, none⟩) M.length c) M.length (M.map (Value.int .i64)) ∧ q ≠ g2 ∧ g2 < wr.heap.size ∧ Hid (∀ j (u : Value), (P.map (Value.int .i64))[j]? = some u → wr.cell? ⟨g2, off2 + j, none⟩ = some u) ∧
        w.heap.size < wr.heap.size ∧ wr.cell? ⟨w.heap.size, 0, none⟩ = some (.slice a G.length cap) ∧ Below w.heap.size w wr) (fun _ i _ => P.length - (intOf i).toNat)
    case atStart => exact ⟨0, w.heap.size + 1, 0, [], Nat.zero_le _, rfl, Lib.hid (by simp), by simp, rfl, hown1, hq0, hg2, HC, hz1, hc1, hbel1⟩
    case round =>
      clear hown1 hq0 hg2 HC hz1 hc1 hbel1
      obtain ⟨k, q, c, M, hk, rfl, HMe, hML, rfl, hown, hne, hgl, HC, hzr, hkb, hbel⟩ := hrel
      by_cases hlt : k < P.length
      · have hlti : (k : Int) < (P.length : Int) := by omega
        have hSr : SlV wr (some ⟨g2, off2, none⟩) (P.map (Value.int .i64)) := .inr ⟨g2, off2, rfl, hgl, HC.out⟩
        have hSG := hr.below hbel
        have hcell : wr.cell? ⟨g2, off2 + k, none⟩ = some (.int .i64 P[k]) := HC.out k _ (by rw [List.getElem?_map, List.getElem?_eq_getElem hlt]; rfl)
        have hxb := HP.out P[k] (List.getElem_mem hlt)
        have HFT := Lib.hid (filter_take (fineB G) hlt)
        rw [← HMe.out] at HFT
        have HQx := Lib.hid (HQ.out P[k])
        have hk0 : (0 : Int) ≤ (k : Int) := by omega
        obtain ⟨hx0, hx1⟩ := hxb
        generalize P[k] = x at *
        have cH := fun (y : Int) w' (h : SlV w' (some ⟨g2, off2, none⟩) (P.map (Value.int .i64))) => spec_HasNumber P y (some ⟨g2, off2, none⟩) k1 w' h (by unfold maxLen; omega)
        go_wp2_with fail
        go_loopw [6, 7] (fun f i w2 => ∃ n : Nat, n ≤ G.length ∧ i = .int .i64 (n : Int) ∧ f = .bool ((G.take n).all fun g => !hasB P (x + g)) ∧ Below wr.heap.size wr w2) (fun _ i _ => G.length - (intOf i).toNat)
        case atStart => exact ⟨0, Nat.zero_le _, rfl, by simp, Below.refl _ _⟩
        case round =>
          rename World => w2
          obtain ⟨n, hn, rfl, rfl, hb2⟩ := hrel
          have hkb2 : w2.cell? ⟨w.heap.size, 0, none⟩ = some (.slice a G.length cap) := (hb2.cell (p := ⟨w.heap.size, 0, none⟩) hzr).trans hkb
          have hl1 : w.heap.size < w2.heap.size := Nat.lt_of_lt_of_le hzr hb2.size
          have hl2 : g2 < w2.heap.size := Nat.lt_of_lt_of_le hgl hb2.size
          have hcx : w2.cell? ⟨g2, off2 + k, none⟩ = some (.int .i64 x) := (hb2.cell (p := ⟨g2, off2 + k, none⟩) hgl).trans hcell
          by_cases hln : n < G.length
          · have hlni : (n : Int) < (G.length : Int) := by omega
            have hSG2 := hSG.below hb2
            obtain ⟨b, off, rfl, hbs, hcg⟩ := hSG2.open (by intro h; rw [List.map_eq_nil_iff] at h; subst h; simp at hln)
            have hcg1 : w2.cell? ⟨b, off + n, none⟩ = some (.int .i64 G[n]) := hcg n _ (by simp [hln])
            have hl3 : b < w2.heap.size := hbs
            obtain ⟨hg0, hg1⟩ := HGG.out G[n] (List.getElem_mem hln)
            have HA := Lib.hid (all_take (fun g => !hasB P (x + g)) hln)
            have hn0 : (0 : Int) ≤ (n : Int) := by omega
            clear hcg hSG2
            generalize G[n] = g at *
            have hwx : IntKind.i64.wrap (x + g) = x + g := IntWalk.i64_in _ (by omega)
            generalize (G.take n).all (fun g => !hasB P (x + g)) = fi at *
            cases fi
            · clear cH
              have hS0 : w2.drew.cell? ⟨w.heap.size, 0, none⟩ = some (.slice (some ⟨b, off, none⟩) G.length cap) ∧ w2.drew.cell? ⟨g2, off2 + k, none⟩ = some (.int .i64 x) ∧ w2.drew.cell? ⟨b, off + n, none⟩ = some (.int .i64 g) ∧ Below w2.heap.size w2 w2.drew := ⟨hkb2, hcx, hcg1, (Below.refl _ _).drew⟩
              go_wp2_with fail
              refine wp_region_held_drew (S := fun w' => w'.cell? ⟨w.heap.size, 0, none⟩ = some (.slice (some ⟨b, off, none⟩) G.length cap) ∧ w'.cell? ⟨g2, off2 + k, none⟩ = some (.int .i64 x) ∧ w'.cell? ⟨b, off + n, none⟩ = some (.int .i64 g) ∧ Below w2.heap.size w2 w') (by kernel_rfl) hS0 (fun hHeld => ?_)
              refine held_take 0 _ _ rfl (by kernel_rfl) (by kernel_rfl) (by kernel_rfl) (fun _ _ _ h => h) (by rfl) hHeld (fun w hSw => by (try dsimp only at hSw); go_simp; try with_reducible rfl) ?_
              (try simp only [Act.put, List.setIfInBounds_toArray, List.set_cons_zero, List.set_cons_succ, List.getElem_toArray, List.getElem_cons_zero])
              refine held_take 1 _ _ rfl (by kernel_rfl) (by kernel_rfl) (by kernel_rfl) (fun _ _ _ h => h) (by rfl) hHeld (fun w hSw => by (try dsimp only at hSw); go_simp; try with_reducible rfl) ?_
              (try simp only [Act.put, List.setIfInBounds_toArray, List.set_cons_zero, List.set_cons_succ, List.getElem_toArray, List.getElem_cons_succ, List.getElem_cons_zero])
              refine held_skip 2 _ rfl (by kernel_rfl) (by kernel_rfl) (by kernel_rfl) (fun _ _ _ h => h) (by rfl) hHeld ?_
              (try simp only [Act.put, List.setIfInBounds_toArray, List.set_cons_zero, List.set_cons_succ, List.getElem_toArray, List.getElem_cons_succ, List.getElem_cons_zero])
              refine held_skip 3 _ rfl (by kernel_rfl) (by kernel_rfl) (by kernel_rfl) (fun _ _ _ h => h) (by rfl) hHeld ?_
              (try simp only [Act.put, List.setIfInBounds_toArray, List.set_cons_zero, List.set_cons_succ, List.getElem_toArray, List.getElem_cons_succ, List.getElem_cons_zero])
              refine held_skip 4 _ rfl (by kernel_rfl) (by kernel_rfl) (by kernel_rfl) (fun _ _ _ h => h) (by rfl) hHeld ?_
              (try simp only [Act.put, List.setIfInBounds_toArray, List.set_cons_zero, List.set_cons_succ, List.getElem_toArray, List.getElem_cons_succ, List.getElem_cons_zero])
              refine held_skip 5 _ rfl (by kernel_rfl) (by kernel_rfl) (by kernel_rfl) (fun _ _ _ h => h) (by rfl) hHeld ?_
              (try simp only [Act.put, List.setIfInBounds_toArray, List.set_cons_zero, List.set_cons_succ, List.getElem_toArray, List.getElem_cons_succ, List.getElem_cons_zero])
              refine held_skip 6 _ rfl (by kernel_rfl) (by kernel_rfl) (by kernel_rfl) (fun _ _ _ h => h) (by rfl) hHeld ?_
              (try simp only [Act.put, List.setIfInBounds_toArray, List.set_cons_zero, List.set_cons_succ, List.getElem_toArray, List.getElem_cons_succ, List.getElem_cons_zero])
              refine held_skip 7 _ rfl (by kernel_rfl) (by kernel_rfl) (by kernel_rfl) (fun _ _ _ h => h) (by rfl) hHeld ?_
              (try simp only [Act.put, List.setIfInBounds_toArray, List.set_cons_zero, List.set_cons_succ, List.getElem_toArray, List.getElem_cons_succ, List.getElem_cons_zero])
              refine held_skip 8 _ rfl (by kernel_rfl) (by kernel_rfl) (by kernel_rfl) (fun _ _ _ h => h) (by rfl) hHeld ?_
              (try simp only [Act.put, List.setIfInBounds_toArray, List.set_cons_zero, List.set_cons_succ, List.getElem_toArray, List.getElem_cons_succ, List.getElem_cons_zero])
              refine held_skip 9 _ rfl (by kernel_rfl) (by kernel_rfl) (by kernel_rfl) (fun _ _ _ h => h) (by rfl) hHeld ?_
              (try simp only [Act.put, List.setIfInBounds_toArray, List.set_cons_zero, List.set_cons_succ, List.getElem_toArray, List.getElem_cons_succ, List.getElem_cons_zero])
              refine held_skip 10 _ rfl (by kernel_rfl) (by kernel_rfl) (by kernel_rfl) (fun _ _ _ h => h) (by rfl) hHeld ?_
              (try simp only [Act.put, List.setIfInBounds_toArray, List.set_cons_zero, List.set_cons_succ, List.getElem_toArray, List.getElem_cons_succ, List.getElem_cons_zero])
              refine held_skip 11 _ rfl (by kernel_rfl) (by kernel_rfl) (by kernel_rfl) (fun _ _ _ h => h) (by rfl) hHeld ?_
              (try simp only [Act.put, List.setIfInBounds_toArray, List.set_cons_zero, List.set_cons_succ, List.getElem_toArray, List.getElem_cons_succ, List.getElem_cons_zero])
              refine held_skip 12 _ rfl (by kernel_rfl) (by kernel_rfl) (by kernel_rfl) (fun _ _ _ h => h) (by rfl) hHeld ?_
              (try simp only [Act.put, List.setIfInBounds_toArray, List.set_cons_zero, List.set_cons_succ, List.getElem_toArray, List.getElem_cons_succ, List.getElem_cons_zero])
              refine held_skip 13 _ rfl (by kernel_rfl) (by kernel_rfl) (by kernel_rfl) (fun _ _ _ h => h) (by rfl) hHeld ?_
              (try simp only [Act.put, List.setIfInBounds_toArray, List.set_cons_zero, List.set_cons_succ, List.getElem_toArray, List.getElem_cons_succ, List.getElem_cons_zero])
              refine held_skip 14 _ rfl (by kernel_rfl) (by kernel_rfl) (by kernel_rfl) (fun _ _ _ h => h) (by rfl) hHeld ?_
              (try simp only [Act.put, List.setIfInBounds_toArray, List.set_cons_zero, List.set_cons_succ, List.getElem_toArray, List.getElem_cons_succ, List.getElem_cons_zero])
              refine held_take 15 _ _ rfl (by kernel_rfl) (by kernel_rfl) (by kernel_rfl) (fun _ _ _ h => h) (by rfl) hHeld (fun w hSw => by (try dsimp only at hSw); go_simp; try with_reducible rfl) ?_
              (try simp only [Act.put, List.setIfInBounds_toArray, List.set_cons_zero, List.set_cons_succ, List.getElem_toArray, List.getElem_cons_succ, List.getElem_cons_zero])
              refine held_take 16 _ _ rfl (by kernel_rfl) (by kernel_rfl) (by kernel_rfl) (fun _ _ _ h => h) (by rfl) hHeld (fun w hSw => by (try dsimp only at hSw); go_simp; try with_reducible rfl) ?_
              (try simp only [Act.put, List.setIfInBounds_toArray, List.set_cons_zero, List.set_cons_succ, List.getElem_toArray, List.getElem_cons_succ, List.getElem_cons_zero])
              refine wpAnyH_done (by kernel_rfl) ?_ _
              have hb3 := hb2.trans ((hHeld.2.2.2).mono hb2.size)
              clear hS0 hHeld
              go_wp2_with fail
              go_roundw
              case rel => exact ⟨n + 1, by omega, by go_num, by rw [HA.out]; rfl, hb3⟩
              case measure => simp [intOf]; omega
            · generalize hhh : hasB P (x + g) = hh at *
              replace hhh := Lib.hid hhh
              have hS0 : w2.drew.cell? ⟨w.heap.size, 0, none⟩ = some (.slice (some ⟨b, off, none⟩) G.length cap) ∧ w2.drew.cell? ⟨g2, off2 + k, none⟩ = some (.int .i64 x) ∧ w2.drew.cell? ⟨b, off + n, none⟩ = some (.int .i64 g) ∧ Below w2.heap.size w2 w2.drew := ⟨hkb2, hcx, hcg1, (Below.refl _ _).drew⟩
              go_wp2_with fail
              refine wp_region_held_drew (S := fun w' => w'.cell? ⟨w.heap.size, 0, none⟩ = some (.slice (some ⟨b, off, none⟩) G.length cap) ∧ w'.cell? ⟨g2, off2 + k, none⟩ = some (.int .i64 x) ∧ w'.cell? ⟨b, off + n, none⟩ = some (.int .i64 g) ∧ Below w2.heap.size w2 w') (by kernel_rfl) hS0 (fun hHeld => ?_)
              refine held_take 0 _ _ rfl (by kernel_rfl) (by kernel_rfl) (by kernel_rfl) (fun _ _ _ h => h) (by rfl) hHeld (fun w hSw => by (try dsimp only at hSw); go_simp; try with_reducible rfl) ?_
              (try simp only [Act.put, List.setIfInBounds_toArray, List.set_cons_zero, List.set_cons_succ, List.getElem_toArray, List.getElem_cons_zero])
              refine held_take 1 _ _ rfl (by kernel_rfl) (by kernel_rfl) (by kernel_rfl) (fun _ _ _ h => h) (by rfl) hHeld (fun w hSw => by (try dsimp only at hSw); go_simp; try with_reducible rfl) ?_
              (try simp only [Act.put, List.setIfInBounds_toArray, List.set_cons_zero, List.set_cons_succ, List.getElem_toArray, List.getElem_cons_succ, List.getElem_cons_zero])
              refine held_take 2 _ _ rfl (by kernel_rfl) (by kernel_rfl) (by kernel_rfl) (fun _ _ _ h => h) (by rfl) hHeld (fun w hSw => by (try dsimp only at hSw); go_simp; try with_reducible rfl) ?_
              (try simp only [Act.put, List.setIfInBounds_toArray, List.set_cons_zero, List.set_cons_succ, List.getElem_toArray, List.getElem_cons_succ, List.getElem_cons_zero])
              refine held_take 3 _ _ rfl (by kernel_rfl) (by kernel_rfl) (by kernel_rfl) (fun _ _ _ h => h) (by rfl) hHeld (fun w hSw => by (try dsimp only at hSw); go_simp; try with_reducible rfl) ?_
              (try simp only [Act.put, List.setIfInBounds_toArray, List.set_cons_zero, List.set_cons_succ, List.getElem_toArray, List.getElem_cons_succ, List.getElem_cons_zero])
              refine held_take 4 _ _ rfl (by kernel_rfl) (by kernel_rfl) (by kernel_rfl) (fun _ _ _ h => h) (by rfl) hHeld (fun w hSw => by (try dsimp only at hSw); go_simp; try with_reducible rfl) ?_
              (try simp only [Act.put, List.setIfInBounds_toArray, List.set_cons_zero, List.set_cons_succ, List.getElem_toArray, List.getElem_cons_succ, List.getElem_cons_zero])
              refine held_take 5 _ _ rfl (by kernel_rfl) (by kernel_rfl) (by kernel_rfl) (fun _ _ _ h => h) (by rfl) hHeld (fun w hSw => by (try dsimp only at hSw); go_simp; try with_reducible rfl) ?_
              (try simp only [Act.put, List.setIfInBounds_toArray, List.set_cons_zero, List.set_cons_succ, List.getElem_toArray, List.getElem_cons_succ, List.getElem_cons_zero])
              refine held_take 6 _ _ rfl (by kernel_rfl) (by kernel_rfl) (by kernel_rfl) (fun _ _ _ h => h) (by rfl) hHeld (fun w hSw => by (try dsimp only at hSw); go_simp; try with_reducible rfl) ?_
              (try simp only [Act.put, List.setIfInBounds_toArray, List.set_cons_zero, List.set_cons_succ, List.getElem_toArray, List.getElem_cons_succ, List.getElem_cons_zero])
              refine held_take 7 _ _ rfl (by kernel_rfl) (by kernel_rfl) (by kernel_rfl) (fun _ _ _ h => h) (by rfl) hHeld (fun w hSw => by (try dsimp only at hSw); go_simp; try with_reducible rfl) ?_
              (try simp only [Act.put, List.setIfInBounds_toArray, List.set_cons_zero, List.set_cons_succ, List.getElem_toArray, List.getElem_cons_succ, List.getElem_cons_zero])
              refine held_take 8 _ _ rfl (by kernel_rfl) (by kernel_rfl) (by kernel_rfl) (fun _ _ _ h => h) (by rfl) hHeld (fun w hSw => by (try dsimp only at hSw); go_simp; try with_reducible rfl) ?_
              (try simp only [Act.put, List.setIfInBounds_toArray, List.set_cons_zero, List.set_cons_succ, List.getElem_toArray, List.getElem_cons_succ, List.getElem_cons_zero])
              refine held_take 9 _ _ rfl (by kernel_rfl) (by kernel_rfl) (by kernel_rfl) (fun _ _ _ h => h) (by rfl) hHeld (fun w hSw => by (try dsimp only at hSw); go_simp; try with_reducible rfl) ?_
              (try simp only [Act.put, List.setIfInBounds_toArray, List.set_cons_zero, List.set_cons_succ, List.getElem_toArray, List.getElem_cons_succ, List.getElem_cons_zero])
              refine held_take 10 _ _ rfl (by kernel_rfl) (by kernel_rfl) (by kernel_rfl) (fun _ _ _ h => h) (by rfl) hHeld (fun w hSw => by (try dsimp only at hSw); go_simp; try with_reducible rfl) ?_
              (try simp only [Act.put, List.setIfInBounds_toArray, List.set_cons_zero, List.set_cons_succ, List.getElem_toArray, List.getElem_cons_succ, List.getElem_cons_zero])
              refine held_take 11 _ _ rfl (by kernel_rfl) (by kernel_rfl) (by kernel_rfl) (fun _ _ _ h => h) (by rfl) hHeld (fun w hSw => by (try dsimp only at hSw); go_simp; try with_reducible rfl) ?_
              (try simp only [Act.put, List.setIfInBounds_toArray, List.set_cons_zero, List.set_cons_succ, List.getElem_toArray, List.getElem_cons_succ, List.getElem_cons_zero])
              refine held_take 12 _ _ rfl (by kernel_rfl) (by kernel_rfl) (by kernel_rfl) (fun _ _ _ h => h) (by rfl) hHeld (fun w hSw => by (try dsimp only at hSw); go_simp; try with_reducible rfl) ?_
              (try simp only [Act.put, List.setIfInBounds_toArray, List.set_cons_zero, List.set_cons_succ, List.getElem_toArray, List.getElem_cons_succ, List.getElem_cons_zero])
              refine wpAnyH_ready (rs := [13]) (by kernel_rfl) (by simp) ?_
              refine AllReadyH.cons rfl (fun K hK => ?_) AllReadyH.nil
              rw [if_pos (by rfl)]
              go_wp2_with (first | (go_at_call 83; have c := cH (x + g) _ (hSr.below (hb2.trans ((hHeld.2.2.2).mono hb2.size))); (with_reducible refine c.mono ?_); rintro e wk ⟨rfl, hww⟩; have hbk := below_eq hww; clear c hww))
              refine hK.out _ _ (keep93 hl1 hl2 hl3 hHeld hbk) (fun hHeld1 => ?_)
              clear hK K
              (try simp only [Act.put, List.setIfInBounds_toArray, List.set_cons_zero, List.set_cons_succ, List.getElem_toArray, List.getElem_cons_succ, List.getElem_cons_zero])
              refine held_take 14 _ _ rfl (by kernel_rfl) (by kernel_rfl) (by kernel_rfl) (fun _ _ _ h => h) (by rfl) hHeld1 (fun w hSw => by (try dsimp only at hSw); go_simp; try with_reducible rfl) ?_
              (try simp only [Act.put, List.setIfInBounds_toArray, List.set_cons_zero, List.set_cons_succ, List.getElem_toArray, List.getElem_cons_succ, List.getElem_cons_zero])
              refine held_take 15 _ _ rfl (by kernel_rfl) (by kernel_rfl) (by kernel_rfl) (fun _ _ _ h => h) (by rfl) hHeld1 (fun w hSw => by (try dsimp only at hSw); go_simp; try with_reducible rfl) ?_
              (try simp only [Act.put, List.setIfInBounds_toArray, List.set_cons_zero, List.set_cons_succ, List.getElem_toArray, List.getElem_cons_succ, List.getElem_cons_zero])
              refine held_take 16 _ _ rfl (by kernel_rfl) (by kernel_rfl) (by kernel_rfl) (fun _ _ _ h => h) (by rfl) hHeld1 (fun w hSw => by (try dsimp only at hSw); go_simp; try with_reducible rfl) ?_
              (try simp only [Act.put, List.setIfInBounds_toArray, List.set_cons_zero, List.set_cons_succ, List.getElem_toArray, List.getElem_cons_succ, List.getElem_cons_zero])
              refine wpAnyH_done (by kernel_rfl) ?_ _
              have hb3 := hb2.trans ((hHeld1.2.2.2).mono hb2.size)
              clear hS0 hHeld1
              go_wp2_with fail
              go_roundw
              case rel => exact ⟨n + 1, by omega, by go_num, by rw [HA.out, Bool.true_and]; rw [hhh.out], hb3⟩
              case measure => simp [intOf]; omega
          · obtain rfl : n = G.length := by omega
            rw [List.take_length, ← HQx.out]
            have hown2 := owns_below hown hb2
            have hbel2 := hbel.trans (hb2.mono hbel.size)
            have HC2 := Lib.hid (show ∀ j (u : Value), (P.map (Value.int .i64))[j]? = some u → w2.cell? ⟨g2, off2 + j, none⟩ = some u from fun j u hj => (hb2.cell (p := ⟨g2, off2 + j, none⟩) hgl).trans (HC.out j u hj))
            have hqf := owns_facts hown2
            clear cH HQx hown hbel HC hgl hzr hkb hcell hSr hSG hb2
            cases hq : fineB G x
            · rw [hq] at HFT
              clear hq
              go_wp2_with fail
              go_roundw
              case rel => exact ⟨k + 1, q, c, M, by omega, by go_num, Lib.hid (by rw [HFT.out]; simp), by omega, rfl, hown2, hne, hl2, HC2, hl1, hkb2, hbel2⟩
              case measure => simp [intOf]; omega
            · rw [hq] at HFT
              clear hq
              have hsz2 := hbel2.size
              go_wp2_with (at_builtin; refine wpList_append_lies _ rfl _ _ 24 rfl (w.heap.size + 1) 3 i0 (Value.int .i64 0) 1 8 Tryz.underlying24 hi hz0 hz1 hz2 rfl (by decide) (.slice (some ⟨q, 0, none⟩) M.length c) M.length (M.map (Value.int .i64)) rfl (hown2.alloc _) ⟨w2.heap.size, 0, none⟩ 1 1 [.int .i64 x] rfl rfl (World.news_of_block (cs := #[.int .i64 x]) (t := 3) (fr := (0, 0)) (heap_alloc_new w2 _)) (by simp [Value.oneCell']) (by omega) (by unfold maxLen; omega) (by omega) (by simp; omega) _ rfl ?_; intro q3 c3 w3 hown3 hgr3 hat3 hlt3)
              have hb3 := (hbel2.alloc hsz2 _).grown hgr3 (by simp; omega) (fun j hj => by simp [Value.ownBlock] at hj; omega)
              have hblk : w3.heap[g2]? = w2.heap[g2]? := (hgr3.block g2 (by simp; omega) (by simp [Value.ownBlock]; omega)).trans (Below.heap_alloc w2 _ g2 hl2)
              have hblk2 : w3.heap[w.heap.size]? = w2.heap[w.heap.size]? := (hgr3.block w.heap.size (by simp; omega) (by simp [Value.ownBlock]; omega)).trans (Below.heap_alloc w2 _ w.heap.size hl1)
              have hgl3 : g2 < w3.heap.size := by have := hgr3.size; simp at this; omega
              have hzr3 : w.heap.size < w3.heap.size := by have := hgr3.size; simp at this; omega
              have hq3 : q3 ≠ g2 := by
                rcases hat3 with h | h
                · simp [Value.ownBlock] at h; omega
                · simp at h; omega
              have hkb3 : w3.cell? ⟨w.heap.size, 0, none⟩ = some (.slice a G.length cap) := (World.cell?_of_block (a := ⟨w.heap.size, 0, none⟩) hblk2).trans hkb2
              have HC3 := Lib.hid (show ∀ j (u : Value), (P.map (Value.int .i64))[j]? = some u → w3.cell? ⟨g2, off2 + j, none⟩ = some u from fun j u hj => (World.cell?_of_block (a := ⟨g2, off2 + j, none⟩) hblk).trans (HC2.out j u hj))
              have HO := Lib.hid hown3
              clear hown3 hown2 hgr3 hblk hblk2 HC2 hkb2 hcx
              go_wp2_with fail
              go_roundw
              case rel => exact ⟨k + 1, q3, c3, M ++ [x], by omega, by go_num, Lib.hid (by rw [HFT.out]; simp), by rw [List.length_append, List.length_singleton]; omega, by rw [List.length_append, List.length_singleton], by have := HO.out; simpa using this, hq3, hgl3, HC3, hzr3, hkb3, hb3⟩
              case measure => simp [intOf]; omega
      · obtain rfl : k = P.length := by omega
        have HE : Hid (psfL G = M) := Lib.hid (by rw [HMe.out, List.take_length, HT.out])
        go_wp2_with fail
        go_ret
        exact ⟨_, rfl, by rw [HE.out]; exact owns_wider hown (Nat.le_succ _), hbel⟩
end Go.Proofs.YtopnehkhigacpaaGreat
