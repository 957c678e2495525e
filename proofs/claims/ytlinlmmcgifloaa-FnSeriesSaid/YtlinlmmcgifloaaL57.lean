/-
  CONTRACTS of the reference's chapter 15: EulerList. (Own work: mkL57.py.)
-/
import Derived.Test.YtlinlmmcgifloaaSgEu
import Derived.Test.YtlinlmmcgifloaaL56
import Derived.Test.YtlinlmmcgifloaaL52
import Derived.Test.YtlinlmmcgifloaaSgS
import Derived.StillTailTactics
namespace Go.Proofs.Ytlinlmmcgifloaa
open Go Go.RowKit

set_option maxRecDepth 100000 in
set_option maxHeartbeats 1600000 in
theorem spec_EulerList (G : List Int) (a : Option Addr) (cap : Nat) (w : World) (hr : SlV w a (G.map (Value.int .i64))) (hb : G.length ≤ 1048576) :
    Calls Try.prog 40 #[.agg #[.slice a G.length cap]] w (SlPost (eulL G) w) := by
  obtain ⟨V, hV⟩ : ∃ V, V = w.alloc (.cells #[.slice a G.length cap] 26) := ⟨_, rfl⟩
  have hbV : Below w.heap.size w V := by rw [hV]; exact box_below _ _
  have hc0 : V.cell? ⟨w.heap.size, 0, none⟩ = some (.slice a G.length cap) := by rw [hV]; exact box_cell w _
  have hVs : w.heap.size < V.heap.size := by rw [hV]; simp
  have HV := Lib.hid hV
  clear hV
  have c1 := spec_IsSemigroup G a cap V (hr.below hbV) hb
  cases hs : isSgB G
  · have HE := Lib.hid (eulL_no hs)
    rw [hs] at c1
    clear hs hr hc0
    go_enter Try.func40, Try.ntmps40
    go_wp2_with fail
    rw [← HV.out]
    refine c1.mono ?_
    rintro e w1 ⟨rfl, hb1⟩
    have hb01 := hbV.trans (hb1.mono hbV.size)
    go_wp2_with fail
    go_ret
    exact ⟨_, rfl, by rw [HE.out]; exact World.ownsRow_lit _ #[] 0 hb01.size (by simp) rfl, hb01.alloc hb01.size _⟩
  · rw [hs] at c1
    have hS := isSgB_iff.1 hs
    obtain ⟨N, hN⟩ : ∃ N : Nat, eulS G G.length = (N : Int) := ⟨(eulS G G.length).toNat, by have := (eulS_bnd hs G.length).1; omega⟩
    have h0 : 0 < G.length := (okG_iff.1 hS.ok).2.1
    have hNb : 1 ≤ N ∧ N ≤ 920 := by have h1 := eulS_bnd hs G.length; have h2 := eulS_gen hs (List.getElem_mem h0); have h3 := hS.bounds _ (List.getElem_mem h0); omega
    obtain ⟨hN0, hN1⟩ := hNb
    have h12 := hS.len
    have HSB := Lib.hid (fun k => eulS_bnd hs k)
    have HEL := Lib.hid (eulL_yes hs hN)
    have HEF := Lib.hid (eul_first hs hN)
    have HBD := Lib.hid hS.bounds
    have HSG := Lib.hid hs
    have HGN : Hid (∀ g, g ∈ G → g ≤ (N : Int)) := Lib.hid fun g hg => by rw [← hN]; exact eulS_gen hs hg
    have hf : frobN G + 1 = eulS G 0 := by rw [frob_cond hs]; unfold eulS; simp
    have hfb : -1 ≤ frobN G ∧ frobN G ≤ 199 := by have h1 := frob_cond hs; have h2 := condNat_le G; omega
    obtain ⟨hf0, hf1⟩ := hfb
    have cf := spec_FrobeniusOf G a cap
    have HRS := Lib.hid (fun w2 (h : Below V.heap.size V w2) => hr.below (hbV.trans (h.mono hbV.size)))
    obtain ⟨b, off, rfl, hbs, hcl⟩ := hr.open (by intro h; rw [List.map_eq_nil_iff] at h; rw [h] at h0; simp at h0)
    have HK : Hid (∀ w2, Below V.heap.size V w2 → w2.cell? ⟨w.heap.size, 0, none⟩ = some (.slice (some ⟨b, off, none⟩) G.length cap)) := Lib.hid fun w2 h => (h.cell (p := ⟨w.heap.size, 0, none⟩) hVs).trans hc0
    have HGC : Hid (∀ w2, Below V.heap.size V w2 → ∀ k (hk : k < G.length), w2.cell? ⟨b, off + k, none⟩ = some (.int .i64 G[k])) := Lib.hid fun w2 h k hk => ((hbV.trans (h.mono hbV.size)).cell (p := ⟨b, off + k, none⟩) hbs).trans (hcl k _ (by simp [hk]))
    clear hs hS hr hc0 hbs hcl h0
    generalize frobN G = f at *
    go_enter Try.func40, Try.ntmps40
    go_wp2_with fail
    rw [← HV.out]
    refine c1.mono ?_
    rintro e w1 ⟨rfl, hb1⟩
    have hk1 := HK.out w1 hb1
    have cf1 := cf w1 (HRS.out w1 hb1) hb
    clear c1 cf
    go_wp2_with fail
    refine cf1.mono ?_
    rintro e w2 ⟨rfl, hb2'⟩
    have hb2 := hb1.trans (hb2'.mono hb1.size)
    clear cf1 hk1 hb2' hb1
    go_wp2_with fail
    go_loopw [3, 4] (fun v i wr => ∃ k : Nat, k ≤ G.length ∧ i = .int .i64 (k : Int) ∧ v = .int .i64 (eulS G k) ∧ wr = w2) (fun _ i _ => G.length - (intOf i).toNat)
    case atStart => exact ⟨0, Nat.zero_le _, rfl, by first | rfl | rw [hf], rfl⟩
    case round =>
      obtain ⟨k, hk, rfl, rfl, hwr⟩ := hrel
      subst hwr
      have hbel := hb2
      clear hb2
      have hkb := HK.out _ hbel
      by_cases hlt : k < G.length
      · have hlti : (k : Int) < (G.length : Int) := by omega
        have HT := Lib.hid (eulS_succ hlt)
        obtain ⟨hz0, hz1⟩ := HSB.out k
        obtain ⟨hg0, hg1⟩ := HBD.out G[k] (List.getElem_mem hlt)
        have hgk := HGC.out _ hbel k hlt
        have hk0 : (0 : Int) ≤ (k : Int) := by omega
        generalize eulS G k = z at *
        generalize G[k] = g at *
        have hw1 : IntKind.i64.wrap (z + g) = z + g := IntWalk.i64_in _ (by omega)
        go_wp2_with fail
        go_roundw
        case rel => exact ⟨k + 1, by omega, by go_num, by rw [HT.out], by first | rfl | trivial⟩
        case measure => simp [intOf]; omega
      · obtain rfl : k = G.length := by omega
        have hlti : ¬ ((G.length : Nat) : Int) < (G.length : Int) := by omega
        rw [hN]
        have hNL := numL_len G
        have cn := spec_NumeratorOf G (some ⟨b, off, none⟩) cap _ (HRS.out _ hbel) hb
        clear hN hf
        go_wp2_with fail
        refine cn.mono ?_
        rintro e w3 ⟨v, rfl, ho, hb3⟩
        obtain ⟨a1, k1, rfl, rX⟩ := row_open ho
        have hbel3 := hbel.trans (hb3.mono hbel.size)
        have cs := spec_SeriesFrom (numL G) (N : Int) a1 k1 w3 rX.slv (by omega)
        clear cn hkb ho rX hb3 hbel
        go_wp2_with fail
        refine cs.mono ?_
        rintro e w4 ⟨v, rfl, ho4, hb4⟩
        rw [HEF.out.1, HEF.out.2] at ho4
        obtain ⟨rfl, hn0⟩ | ⟨q, c, rfl, -⟩ := own_cases ho4
        · omega
        have hq := ho4.lt q rfl
        have hbel4 := hbel3.trans (hb4.mono hbel3.size)
        have hz3 := hbel3.size
        have hVq : V.heap.size ≤ q := by omega
        have HO : Hid (w4.ownsRow V.heap.size 3 1 (.slice (some ⟨q, 0, none⟩) N c) N (tabJ (fun n => eulR G (G.take 0) (n : Int)) N)) := Lib.hid (ownsBase ho4 hz3)
        have HB := Lib.hid hbel4
        clear cs ho4 hb4 hbel3 hbel4 hq hz3
        go_wp2_with fail
        go_loopw [6] (fun i wr => ∃ k : Nat, k ≤ G.length ∧ i = .int .i64 (k : Int) ∧ wr.ownsRow V.heap.size 3 1 (.slice (some ⟨q, 0, none⟩) N c) N (tabJ (fun n => eulR G (G.take k) (n : Int)) N) ∧ Below V.heap.size V wr) (fun i _ => G.length - (intOf i).toNat)
        case atStart => exact ⟨0, Nat.zero_le _, rfl, HO.out, HB.out⟩
        case round =>
          clear HO HB
          rename World => wr
          obtain ⟨k, hk, rfl, hown, hbel⟩ := hrel
          have hkb := HK.out wr hbel
          by_cases hlt : k < G.length
          · have hlti : (k : Int) < (G.length : Int) := by omega
            obtain ⟨hg0, hg1⟩ := HBD.out G[k] (List.getElem_mem hlt)
            have hgN := HGN.out G[k] (List.getElem_mem hlt)
            obtain ⟨g, hg⟩ : ∃ g : Nat, G[k] = (g : Int) := ⟨G[k].toNat, by omega⟩
            have HNX : Hid (∀ t u : Nat, t = u + g → eulR G (G.take (k + 1)) (t : Int) = eulR G (G.take k) (t : Int) - eulR G (G.take k) (u : Int)) := Lib.hid fun t u h => by rw [eulT_next HSG.out hlt, hg, show (t : Int) - (g : Int) = (u : Int) by omega]
            have HLO : Hid (∀ n, eulT G k g n = eulR G (G.take (k + 1)) (n : Int)) := Lib.hid fun n => eulT_low HSG.out hlt (by omega)
            have HGK : Hid (∀ w2, Below V.heap.size V w2 → w2.cell? ⟨b, off + k, none⟩ = some (.int .i64 (g : Int))) := Lib.hid fun w2 h => by rw [← hg]; exact HGC.out w2 h k hlt
            rw [hg] at hg0 hg1 hgN
            rw [← tabJ_congr (f := eulT G k N) (fun i hi => eulT_high G k hi)] at hown
            have HO := Lib.hid hown
            have HB := Lib.hid hbel
            clear hown hbel hg
            go_wp2_with fail
            go_loopw [7] (fun y wq => ∃ j : Nat, y = .int .i64 ((j : Int) - 1) ∧ g ≤ j ∧ j ≤ N ∧ wq.ownsRow V.heap.size 3 1 (.slice (some ⟨q, 0, none⟩) N c) N (tabJ (eulT G k j) N) ∧ Below V.heap.size V wq) (fun y _ => (intOf y + 1).toNat)
            case atStart => exact ⟨N, rfl, by omega, Nat.le_refl _, HO.out, HB.out⟩
            case round =>
              clear HO HB hkb
              rename World => wq
              obtain ⟨j, rfl, hgj, hjN, hown, hbel⟩ := hrel
              by_cases hle : g + 1 ≤ j
              · obtain ⟨t, rfl⟩ : ∃ t, j = t + 1 := ⟨j - 1, by omega⟩
                rw [show ((t + 1 : Nat) : Int) - 1 = (t : Int) by omega]
                obtain ⟨u, hu⟩ : ∃ u, t = u + g := ⟨t - g, by omega⟩
                have hge : (g : Int) ≤ (t : Int) := by omega
                have hkb := HK.out wq hbel
                have hgk := HGK.out wq hbel
                have hkbd := HK.out _ hbel.drew
                have hgkd := HGK.out _ hbel.drew
                have hct : wq.drew.cell? ⟨q, t, none⟩ = some (.int .i64 (eulR G (G.take k) (t : Int))) := by have := hown.cellAt t (by omega); rw [tabJ_get _ (by omega), eulT_high G k (by omega)] at this; exact this
                have hcu : wq.drew.cell? ⟨q, u, none⟩ = some (.int .i64 (eulR G (G.take k) (u : Int))) := by have := hown.cellAt u (by omega); rw [tabJ_get _ (by omega), eulT_high G k (by omega)] at this; exact this
                have hnx := HNX.out t u hu
                have hb1 := eulT_bnd HSG.out k (t : Int)
                have hb2 := eulT_bnd HSG.out k (u : Int)
                have hw1 : IntKind.i64.wrap ((t : Int) - (g : Int)) = (u : Int) := by rw [IntWalk.i64_in _ (by omega)]; omega
                have hw2 : IntKind.i64.wrap (eulR G (G.take k) (t : Int) - eulR G (G.take k) (u : Int)) = eulR G (G.take (k + 1)) (t : Int) := by rw [IntWalk.i64_in _ (by omega), hnx]
                have hownd : wq.drew.ownsRow V.heap.size 3 1 (.slice (some ⟨q, 0, none⟩) N c) N (tabJ (eulT G k (t + 1)) N) := hown
                have hst := hownd.stored t (.int .i64 (eulR G (G.take (k + 1)) (t : Int)))
                rw [tabJ_set (g := eulT G k t) _ (by unfold eulT; rw [if_pos (Nat.le_refl _)]) (fun i hi => eulT_else G k hi)] at hst
                have HST := Lib.hid hst.1
                have hfz : wq.drew.frozen? ⟨q, t, none⟩ = false := hown.frozenAt t
                have HB2 := Lib.hid (hbel.drew.setCell (p := ⟨q, t, none⟩) hVq (.int .i64 (eulR G (G.take (k + 1)) (t : Int))))
                have hk0 : (0 : Int) ≤ (k : Int) := by omega
                have ht0 : (0 : Int) ≤ (t : Int) := by omega
                have hu0 : (0 : Int) ≤ (u : Int) := by omega
                have htm : (t : Int) < (N : Int) := by omega
                have hum : (u : Int) < (N : Int) := by omega
                clear hst hown hownd hbel hnx hb1 hb2 hu
                generalize eulR G (G.take k) (t : Int) = xt at *
                generalize eulR G (G.take k) (u : Int) = xu at *
                generalize eulR G (G.take (k + 1)) (t : Int) = xn at *
                go_wp2_with fail
                refine wp_region_still_tail 18 (by kernel_rfl) (by kernel_rfl) ?_
                change wpStill _ _ wq.drew _ _ _
                simp only [List.take_succ_cons, List.take_zero, List.drop_succ_cons, List.drop_zero]
                clear hkb hgk
                repeat still_step
                refine wpStill_nil ?_
                change wpList _ _ _ _ _ wq.drew
                generalize wq.drew = wd at *
                go_wp2_with fail
                go_roundw
                case rel => exact ⟨t, rfl, by omega, by omega, HST.out, HB2.out⟩
                case measure => first | (simp [intOf]; done) | (simp [intOf]; omega)
              · obtain rfl : j = g := by omega
                have hkb := HK.out wq hbel
                have hgk := HGK.out wq hbel
                have hge : ¬ (j : Int) ≤ (j : Int) - 1 := by omega
                rw [tabJ_congr (fun i _ => HLO.out i)] at hown
                have HO := Lib.hid hown
                clear hown
                go_wp2_with fail
                go_roundw
                case rel => exact ⟨k + 1, by omega, by go_num, HO.out, hbel⟩
                case measure => simp [intOf]; omega
          · obtain rfl : k = G.length := by omega
            have hlti : ¬ ((G.length : Nat) : Int) < (G.length : Int) := by omega
            have hbF := hbV.trans (hbel.mono hbV.size)
            have HO := Lib.hid hown
            clear hown hbel
            go_wp2_with fail
            go_ret
            exact ⟨_, rfl, by rw [HEL.out.1, HEL.out.2]; exact ownsBase HO.out hbV.size, hbF⟩
end Go.Proofs.Ytlinlmmcgifloaa
