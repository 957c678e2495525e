/-
  CONTRACTS of the reference's chapter 24: ArfFailure, IsArf. (Own work: mk76.py.)
-/
import Derived.Test.YtipfonpaaebjjaaGreatSgAr
import Derived.Test.YtipfonpaaebjjaaGreatL51
import Derived.Test.YtipfonpaaebjjaaGreatL26
import Derived.Maps.AppendAt
import Derived.WalkMore
namespace Go.Proofs.YtipfonpaaebjjaaGreat
open Go Go.RowKit
attribute [local go_sem] Oper.semAt_some

theorem results_tmp4 {fn : Func} {t u v x : Tmp} (h : fn.results = #[.tmp t, .tmp u, .tmp v, .tmp x]) (tmps : Array Value) (P : Program) (w : World) :
    (results fn tmps).run P w = .ok (.tuple #[tmps.getD t undef, tmps.getD u undef, tmps.getD v undef, tmps.getD x undef]) w := by
  simp [results, h]
theorem smallL_bnd {G : List Int} : ∀ x ∈ smallL G, 0 ≤ x ∧ x ≤ 199 := by
  intro x hx
  cases hs : isSgB G
  · rw [smallL_no hs] at hx; cases hx
  · rw [smallL_yes hs] at hx
    obtain ⟨k, hk, rfl⟩ := List.mem_map.1 hx
    have h1 := (mem_upB.1 hk).1
    have h2 := condNat_le G
    constructor
    · simp
    · show (k : Int) ≤ 199; omega
theorem smallL_len2 (G : List Int) : (smallL G).length ≤ 200 := by
  cases hs : isSgB G
  · rw [smallL_no hs]; simp
  · rw [smallL_yes hs, List.length_map]
    exact Nat.le_trans (upB_len_le _ _) (condNat_le G)

set_option maxRecDepth 100000 in
set_option maxHeartbeats 1600000 in
theorem spec_ArfFailure (G : List Int) (a : Option Addr) (cap : Nat) (w : World) (hr : SlV w a (G.map (Value.int .i64))) (hb : G.length ≤ 1048576) :
    Calls Tryz.prog 26 #[.agg #[.slice a G.length cap]] w fun e w' => e = .returned (.tuple #[.int .i64 (arfX (smallL G) (hasN G)), .int .i64 (arfY (smallL G) (hasN G)), .int .i64 (arfZ (smallL G) (hasN G)), .bool (arfQ (smallL G) (hasN G))]) ∧ Below w.heap.size w w' := by
  have c1 := fun w2 (h : SlV w2 a (G.map (Value.int .i64))) => spec_SmallElements G a cap w2 h hb
  have hch : ∀ w2 (z : Int), SlV w2 a (G.map (Value.int .i64)) → isSgB G = true → Calls Tryz.prog 73 #[.agg #[.slice a G.length cap], .int .i64 z] w2 fun e w' => e = .returned (.bool (hasN G z)) ∧ Below w2.heap.size w2 w' := fun w2 z h hs => spec_l15Has G z a cap w2 h hs
  obtain ⟨V, hV⟩ : ∃ V, V = w.alloc (.cells #[.slice a G.length cap] 26) := ⟨_, rfl⟩
  have hbV : Below w.heap.size w V := by rw [hV]; exact box_below _ _
  have hcV : V.cell? ⟨w.heap.size, 0, none⟩ = some (.slice a G.length cap) := by rw [hV]; exact box_cell w _
  have hVs : w.heap.size < V.heap.size := by rw [hV]; simp
  have HV := Lib.hid hV
  have HRS := Lib.hid (fun w2 (h : Below V.heap.size V w2) => hr.below (hbV.trans (h.mono hbV.size)))
  have HKC := Lib.hid (fun w2 (h : Below V.heap.size V w2) => (h.cell (p := ⟨w.heap.size, 0, none⟩) (show w.heap.size < V.heap.size by omega)).trans hcV)
  clear hV hr
  have c1 := c1 V (HRS.out V (Below.refl _ _))
  have HSB := Lib.hid (smallL_bnd (G := G))
  have hsl := smallL_len2 G
  have HSG : Hid (0 < (smallL G).length → isSgB G = true) := Lib.hid fun h => by
    rcases Bool.eq_false_or_eq_true (isSgB G) with e | e
    · exact e
    · rw [smallL_no e] at h; simp at h
  have HHIT := Lib.hid (fun i j k (h : FirstT (badT (smallL G) (hasN G)) (smallL G).length i j k) => arf_hit h)
  have HNON := Lib.hid (fun (h : ∀ i j k, i < (smallL G).length → j ≤ i → k ≤ j → badT (smallL G) (hasN G) i j k = false) => arf_none h)
  have HBAD := Lib.hid (fun i j k => show badT (smallL G) (hasN G) i j k = !hasN G ((smallL G).getD i 0 + (smallL G).getD j 0 - (smallL G).getD k 0) from rfl)
  generalize smallL G = S at *
  generalize arfX S (hasN G) = AX at *
  generalize arfY S (hasN G) = AY at *
  generalize arfZ S (hasN G) = AZ at *
  generalize arfQ S (hasN G) = AQ at *
  generalize badT S (hasN G) = bad at *
  go_enter Tryz.func26, Tryz.ntmps26
  go_wp2_with (rw [← HV.out])
  refine c1.mono ?_
  rintro e w1 ⟨v1, rfl, ho1, hb1⟩
  obtain ⟨a1, k1, rfl, rX1⟩ := row_open ho1
  have HSL := Lib.hid rX1.slv
  clear c1 ho1 rX1 hcV
  go_wp2_with fail
  go_loopw [7] (fun zi wr => ∃ i : Nat, i ≤ S.length ∧ zi = .int .i64 (i : Int) ∧ Hid (∀ a b c, a < i → b ≤ a → c ≤ b → bad a b c = false) ∧ Below w1.heap.size w1 wr) (fun zi _ => S.length - (intOf zi).toNat)
  case atStart => exact ⟨0, Nat.zero_le _, rfl, Lib.hid (fun a b c h => absurd h (Nat.not_lt_zero a)), Below.refl _ _⟩
  case round =>
    rename World => wr
    obtain ⟨i, hi, rfl, HI, hbel⟩ := hrel
    have hsz := hbel.size
    by_cases hlt : i < S.length
    · have hlti : (i : Int) < (S.length : Int) := by omega
      have HS := Lib.hid (HSG.out (by omega))
      go_wp2_with fail
      go_loopw [8] (fun zj w2 => ∃ j : Nat, j ≤ i + 1 ∧ zj = .int .i64 (j : Int) ∧ Hid (∀ b c, b < j → c ≤ b → bad i b c = false) ∧ Below w1.heap.size w1 w2) (fun zj _ => i + 1 - (intOf zj).toNat)
      case atStart => exact ⟨0, Nat.zero_le _, rfl, Lib.hid (fun b c h => absurd h (Nat.not_lt_zero b)), hbel⟩
      case round =>
        rename World => w2
        obtain ⟨j, hj, rfl, HJ, hbel2⟩ := hrel
        have hsz2 := hbel2.size
        by_cases hjt : j ≤ i
        · have hjti : (j : Int) ≤ (i : Int) := by omega
          go_wp2_with fail
          go_loopw [9] (fun zk w3 => ∃ k : Nat, k ≤ j + 1 ∧ zk = .int .i64 (k : Int) ∧ Hid (∀ c, c < k → bad i j c = false) ∧ Below w1.heap.size w1 w3) (fun zk _ => j + 1 - (intOf zk).toNat)
          case atStart => exact ⟨0, Nat.zero_le _, rfl, Lib.hid (fun c h => absurd h (Nat.not_lt_zero c)), hbel2⟩
          case round =>
            rename World => w3
            obtain ⟨k, hk, rfl, HKK, hbel3⟩ := hrel
            have hbv3 := hb1.trans (hbel3.mono hb1.size)
            by_cases hkt : k ≤ j
            · have hkti : (k : Int) ≤ (j : Int) := by omega
              obtain ⟨b, off, rfl, hbs, hcl⟩ := HSL.out.open (by intro h; rw [List.map_eq_nil_iff] at h; rw [h] at hlt; simp at hlt)
              have hjl : j < S.length := by omega
              have hkl : k < S.length := by omega
              have hii : (i : Int) < (S.length : Int) := by omega
              have hji : (j : Int) < (S.length : Int) := by omega
              have hki : (k : Int) < (S.length : Int) := by omega
              have HK : Hid (∀ w', Below w3.heap.size w3 w' → (w'.cell? ⟨w.heap.size, 0, none⟩ = some (.slice a G.length cap) ∧ w'.cell? ⟨b, off + i, none⟩ = some (.int .i64 S[i]) ∧ w'.cell? ⟨b, off + j, none⟩ = some (.int .i64 S[j]) ∧ w'.cell? ⟨b, off + k, none⟩ = some (.int .i64 S[k]) ∧ Below w3.heap.size w3 w')) := Lib.hid fun w' h => ⟨HKC.out _ (hbv3.trans (h.mono hbv3.size)), ((hbel3.trans (h.mono hbel3.size)).cell (p := ⟨b, off + i, none⟩) hbs).trans (hcl i _ (by simp [hlt])), ((hbel3.trans (h.mono hbel3.size)).cell (p := ⟨b, off + j, none⟩) hbs).trans (hcl j _ (by simp [hjl])), ((hbel3.trans (h.mono hbel3.size)).cell (p := ⟨b, off + k, none⟩) hbs).trans (hcl k _ (by simp [hkl])), h⟩
              have hx := HSB.out S[i] (List.getElem_mem hlt)
              have hy := HSB.out S[j] (List.getElem_mem hjl)
              have hz := HSB.out S[k] (List.getElem_mem hkl)
              have HB := Lib.hid (HBAD.out i j k)
              rw [show S.getD i 0 = S[i] by simp [List.getD, hlt], show S.getD j 0 = S[j] by simp [List.getD, hjl], show S.getD k 0 = S[k] by simp [List.getD, hkl]] at HB
              have HH := Lib.hid (HHIT.out i j k)
              rw [show S.getD i 0 = S[i] by simp [List.getD, hlt], show S.getD j 0 = S[j] by simp [List.getD, hjl], show S.getD k 0 = S[k] by simp [List.getD, hkl]] at HH
              clear hbs hcl
              generalize S[i] = x at *
              generalize S[j] = y at *
              generalize S[k] = z at *
              have hw1 : IntKind.i64.wrap (x + y) = x + y := IntWalk.i64_in _ (by omega)
              have hw2 : IntKind.i64.wrap (x + y - z) = x + y - z := IntWalk.i64_in _ (by omega)
              have ch := fun w' (h : Below w3.heap.size w3 w') => hch w' (x + y - z) (HRS.out _ (hbv3.trans (h.mono hbv3.size))) HS.out
              generalize hasN G (x + y - z) = q at *
              go_wp2_with fail
              have hS0 := HK.out _ (Below.refl w3.heap.size w3).drew
              refine wp_region_held_drew (S := fun w' => (w'.cell? ⟨w.heap.size, 0, none⟩ = some (.slice a G.length cap) ∧ w'.cell? ⟨b, off + i, none⟩ = some (.int .i64 x) ∧ w'.cell? ⟨b, off + j, none⟩ = some (.int .i64 y) ∧ w'.cell? ⟨b, off + k, none⟩ = some (.int .i64 z) ∧ Below w3.heap.size w3 w')) (by kernel_rfl) hS0 (fun hHeld => ?_)
              refine held_take 0 _ _ rfl (by kernel_rfl) (by kernel_rfl) (by kernel_rfl) (fun _ _ _ h => h) (by rfl) hHeld (fun w hSw => by (try dsimp only at hSw); go_simp; try with_reducible rfl) ?_
              (try simp only [Act.put, List.setIfInBounds_toArray, List.set_cons_zero, List.set_cons_succ, List.getElem_toArray, List.getElem_cons_zero])
              refine held_take 1 _ _ rfl (by kernel_rfl) (by kernel_rfl) (by kernel_rfl) (fun _ _ _ h => h) (by rfl) hHeld (fun w hSw => by (try dsimp only at hSw); go_simp; try with_reducible rfl) ?_
              (try simp only [Act.put, List.setIfInBounds_toArray, List.set_cons_zero, List.set_cons_succ, List.getElem_toArray, List.getElem_cons_succ, List.getElem_cons_zero])
              refine held_take 2 _ _ rfl (by kernel_rfl) (by kernel_rfl) (by kernel_rfl) (fun _ _ _ h => h) (by rfl) hHeld (fun w hSw => by (try dsimp only at hSw); go_simp; try with_reducible rfl) ?_
              (try simp only [Act.put, List.setIfInBounds_toArray, List.set_cons_zero, List.set_cons_succ, List.getElem_toArray, List.getElem_cons_succ, List.getElem_cons_zero])
              refine held_take 3 _ _ rfl (by kernel_rfl) (by kernel_rfl) (by kernel_rfl) (fun _ _ _ h => h) (by rfl) hHeld (fun w hSw => by (try dsimp only at hSw); go_simp; try with_reducible rfl) ?_
              (try simp only [Act.put, List.setIfInBounds_toArray, List.set_cons_zero, List.set_cons_succ, List.getElem_toArray, List.getElem_cons_succ, List.getElem_cons_zero])
              refine held_take 4 _ _ rfl (by kernel_rfl) (by kernel_rfl) (by kernel_rfl) (fun _ _ _ h => h) (by rfl) hHeld (fun w hSw => by (try dsimp only at hSw); go_simp; try with_reducible rfl) ?_
              (try simp only [Act.put, List.setIfInBounds_toArray, List.set_cons_zero, List.set_cons_succ, List.getElem_toArray, List.getElem_cons_succ, List.getElem_cons_zero])
              refine held_take 5 _ _ rfl (by kernel_rfl) (by kernel_rfl) (by kernel_rfl) (fun _ _ _ h => h) (by rfl) hHeld (fun w hSw => by (try dsimp only at hSw); go_simp; try with_reducible rfl) ?_
              (try simp only [Act.put, List.setIfInBounds_toArray, List.set_cons_zero, List.set_cons_succ, List.getElem_toArray, List.getElem_cons_succ, List.getElem_cons_zero])
              refine held_take 6 _ _ rfl (by kernel_rfl) (by kernel_rfl) (by kernel_rfl) (fun _ _ _ h => h) (by rfl) hHeld (fun w hSw => by (try dsimp only at hSw); go_simp; try with_reducible rfl) ?_
              (try simp only [Act.put, List.setIfInBounds_toArray, List.set_cons_zero, List.set_cons_succ, List.getElem_toArray, List.getElem_cons_succ, List.getElem_cons_zero])
              refine held_take 7 _ _ rfl (by kernel_rfl) (by kernel_rfl) (by kernel_rfl) (fun _ _ _ h => h) (by rfl) hHeld (fun w hSw => by (try dsimp only at hSw); go_simp; try with_reducible rfl) ?_
              (try simp only [Act.put, List.setIfInBounds_toArray, List.set_cons_zero, List.set_cons_succ, List.getElem_toArray, List.getElem_cons_succ, List.getElem_cons_zero])
              refine held_take 8 _ _ rfl (by kernel_rfl) (by kernel_rfl) (by kernel_rfl) (fun _ _ _ h => h) (by rfl) hHeld (fun w hSw => by (try dsimp only at hSw); go_simp; try with_reducible rfl) ?_
              (try simp only [Act.put, List.setIfInBounds_toArray, List.set_cons_zero, List.set_cons_succ, List.getElem_toArray, List.getElem_cons_succ, List.getElem_cons_zero])
              refine held_take 9 _ _ rfl (by kernel_rfl) (by kernel_rfl) (by kernel_rfl) (fun _ _ _ h => h) (by rfl) hHeld (fun w hSw => by (try dsimp only at hSw); go_simp; try with_reducible rfl) ?_
              (try simp only [Act.put, List.setIfInBounds_toArray, List.set_cons_zero, List.set_cons_succ, List.getElem_toArray, List.getElem_cons_succ, List.getElem_cons_zero])
              refine held_take 10 _ _ rfl (by kernel_rfl) (by kernel_rfl) (by kernel_rfl) (fun _ _ _ h => h) (by rfl) hHeld (fun w hSw => by (try dsimp only at hSw); go_simp; try with_reducible rfl) ?_
              (try simp only [Act.put, List.setIfInBounds_toArray, List.set_cons_zero, List.set_cons_succ, List.getElem_toArray, List.getElem_cons_succ, List.getElem_cons_zero])
              refine held_take 11 _ _ rfl (by kernel_rfl) (by kernel_rfl) (by kernel_rfl) (fun _ _ _ h => h) (by rfl) hHeld (fun w hSw => by (try dsimp only at hSw); go_simp; try with_reducible rfl) ?_
              (try simp only [Act.put, List.setIfInBounds_toArray, List.set_cons_zero, List.set_cons_succ, List.getElem_toArray, List.getElem_cons_succ, List.getElem_cons_zero])
              refine held_take 12 _ _ rfl (by kernel_rfl) (by kernel_rfl) (by kernel_rfl) (fun _ _ _ h => h) (by rfl) hHeld (fun w hSw => by (try dsimp only at hSw); go_simp; try with_reducible rfl) ?_
              (try simp only [Act.put, List.setIfInBounds_toArray, List.set_cons_zero, List.set_cons_succ, List.getElem_toArray, List.getElem_cons_succ, List.getElem_cons_zero])
              refine held_take 13 _ _ rfl (by kernel_rfl) (by kernel_rfl) (by kernel_rfl) (fun _ _ _ h => h) (by rfl) hHeld (fun w hSw => by (try dsimp only at hSw); go_simp; try with_reducible rfl) ?_
              (try simp only [Act.put, List.setIfInBounds_toArray, List.set_cons_zero, List.set_cons_succ, List.getElem_toArray, List.getElem_cons_succ, List.getElem_cons_zero])
              refine held_take 14 _ _ rfl (by kernel_rfl) (by kernel_rfl) (by kernel_rfl) (fun _ _ _ h => h) (by rfl) hHeld (fun w hSw => by (try dsimp only at hSw); go_simp; try with_reducible rfl) ?_
              (try simp only [Act.put, List.setIfInBounds_toArray, List.set_cons_zero, List.set_cons_succ, List.getElem_toArray, List.getElem_cons_succ, List.getElem_cons_zero])
              refine wpAnyH_ready (rs := [15]) (by kernel_rfl) (by simp) ?_
              refine AllReadyH.cons rfl (fun K hK => ?_) AllReadyH.nil
              rw [if_pos (by rfl)]
              go_wp2_with (first | (go_at_call 73; (with_reducible refine (ch _ (hHeld).2.2.2.2).mono ?_); rintro e wg ⟨rfl, hbg⟩; have hbg2 := (hHeld).2.2.2.2.trans (hbg.mono (hHeld).2.2.2.2.size)))
              refine hK.out _ _ (HK.out _ hbg2) (fun hHeld1 => ?_)
              clear hK K
              (try simp only [Act.put, List.setIfInBounds_toArray, List.set_cons_zero, List.set_cons_succ, List.getElem_toArray, List.getElem_cons_succ, List.getElem_cons_zero])
              refine held_take 16 _ _ rfl (by kernel_rfl) (by kernel_rfl) (by kernel_rfl) (fun _ _ _ h => h) (by rfl) hHeld1 (fun w hSw => by (try dsimp only at hSw); go_simp; try with_reducible rfl) ?_
              (try simp only [Act.put, List.setIfInBounds_toArray, List.set_cons_zero, List.set_cons_succ, List.getElem_toArray, List.getElem_cons_succ, List.getElem_cons_zero])
              refine wpAnyH_done (by kernel_rfl) ?_ _
              clear hS0
              have hbF := hbel3.trans (hbg2.mono hbel3.size)
              cases q
              · have HR := Lib.hid (HH.out ⟨hkt, hjt, hlt, HB.out, HKK.out, HJ.out, HI.out⟩)
                go_wp2_with fail
                have hS1 := HK.out _ hbg2.drew
                refine wp_region_held_drew (S := fun w' => (w'.cell? ⟨w.heap.size, 0, none⟩ = some (.slice a G.length cap) ∧ w'.cell? ⟨b, off + i, none⟩ = some (.int .i64 x) ∧ w'.cell? ⟨b, off + j, none⟩ = some (.int .i64 y) ∧ w'.cell? ⟨b, off + k, none⟩ = some (.int .i64 z) ∧ Below w3.heap.size w3 w')) (by kernel_rfl) hS1 (fun hHeld => ?_)
                refine held_take 0 _ _ rfl (by kernel_rfl) (by kernel_rfl) (by kernel_rfl) (fun _ _ _ h => h) (by rfl) hHeld (fun w hSw => by (try dsimp only at hSw); go_simp; try with_reducible rfl) ?_
                (try simp only [Act.put, List.setIfInBounds_toArray, List.set_cons_zero, List.set_cons_succ, List.getElem_toArray, List.getElem_cons_zero])
                refine held_take 1 _ _ rfl (by kernel_rfl) (by kernel_rfl) (by kernel_rfl) (fun _ _ _ h => h) (by rfl) hHeld (fun w hSw => by (try dsimp only at hSw); go_simp; try with_reducible rfl) ?_
                (try simp only [Act.put, List.setIfInBounds_toArray, List.set_cons_zero, List.set_cons_succ, List.getElem_toArray, List.getElem_cons_succ, List.getElem_cons_zero])
                refine held_take 2 _ _ rfl (by kernel_rfl) (by kernel_rfl) (by kernel_rfl) (fun _ _ _ h => h) (by rfl) hHeld (fun w hSw => by (try dsimp only at hSw); go_simp; try with_reducible rfl) ?_
                (try simp only [Act.put, List.setIfInBounds_toArray, List.set_cons_zero, List.set_cons_succ, List.getElem_toArray, List.getElem_cons_succ, List.getElem_cons_zero])
                refine held_take 3 _ _ rfl (by kernel_rfl) (by kernel_rfl) (by kernel_rfl) (fun _ _ _ h => h) (by rfl) hHeld (fun w hSw => by (try dsimp only at hSw); go_simp; try with_reducible rfl) ?_
                (try simp only [Act.put, List.setIfInBounds_toArray, List.set_cons_zero, List.set_cons_succ, List.getElem_toArray, List.getElem_cons_succ, List.getElem_cons_zero])
                refine held_take 4 _ _ rfl (by kernel_rfl) (by kernel_rfl) (by kernel_rfl) (fun _ _ _ h => h) (by rfl) hHeld (fun w hSw => by (try dsimp only at hSw); go_simp; try with_reducible rfl) ?_
                (try simp only [Act.put, List.setIfInBounds_toArray, List.set_cons_zero, List.set_cons_succ, List.getElem_toArray, List.getElem_cons_succ, List.getElem_cons_zero])
                refine held_take 5 _ _ rfl (by kernel_rfl) (by kernel_rfl) (by kernel_rfl) (fun _ _ _ h => h) (by rfl) hHeld (fun w hSw => by (try dsimp only at hSw); go_simp; try with_reducible rfl) ?_
                (try simp only [Act.put, List.setIfInBounds_toArray, List.set_cons_zero, List.set_cons_succ, List.getElem_toArray, List.getElem_cons_succ, List.getElem_cons_zero])
                refine held_take 6 _ _ rfl (by kernel_rfl) (by kernel_rfl) (by kernel_rfl) (fun _ _ _ h => h) (by rfl) hHeld (fun w hSw => by (try dsimp only at hSw); go_simp; try with_reducible rfl) ?_
                (try simp only [Act.put, List.setIfInBounds_toArray, List.set_cons_zero, List.set_cons_succ, List.getElem_toArray, List.getElem_cons_succ, List.getElem_cons_zero])
                refine held_take 7 _ _ rfl (by kernel_rfl) (by kernel_rfl) (by kernel_rfl) (fun _ _ _ h => h) (by rfl) hHeld (fun w hSw => by (try dsimp only at hSw); go_simp; try with_reducible rfl) ?_
                (try simp only [Act.put, List.setIfInBounds_toArray, List.set_cons_zero, List.set_cons_succ, List.getElem_toArray, List.getElem_cons_succ, List.getElem_cons_zero])
                refine held_take 8 _ _ rfl (by kernel_rfl) (by kernel_rfl) (by kernel_rfl) (fun _ _ _ h => h) (by rfl) hHeld (fun w hSw => by (try dsimp only at hSw); go_simp; try with_reducible rfl) ?_
                (try simp only [Act.put, List.setIfInBounds_toArray, List.set_cons_zero, List.set_cons_succ, List.getElem_toArray, List.getElem_cons_succ, List.getElem_cons_zero])
                refine held_take 9 _ _ rfl (by kernel_rfl) (by kernel_rfl) (by kernel_rfl) (fun _ _ _ h => h) (by rfl) hHeld (fun w hSw => by (try dsimp only at hSw); go_simp; try with_reducible rfl) ?_
                (try simp only [Act.put, List.setIfInBounds_toArray, List.set_cons_zero, List.set_cons_succ, List.getElem_toArray, List.getElem_cons_succ, List.getElem_cons_zero])
                refine held_take 10 _ _ rfl (by kernel_rfl) (by kernel_rfl) (by kernel_rfl) (fun _ _ _ h => h) (by rfl) hHeld (fun w hSw => by (try dsimp only at hSw); go_simp; try with_reducible rfl) ?_
                (try simp only [Act.put, List.setIfInBounds_toArray, List.set_cons_zero, List.set_cons_succ, List.getElem_toArray, List.getElem_cons_succ, List.getElem_cons_zero])
                refine held_take 11 _ _ rfl (by kernel_rfl) (by kernel_rfl) (by kernel_rfl) (fun _ _ _ h => h) (by rfl) hHeld (fun w hSw => by (try dsimp only at hSw); go_simp; try with_reducible rfl) ?_
                (try simp only [Act.put, List.setIfInBounds_toArray, List.set_cons_zero, List.set_cons_succ, List.getElem_toArray, List.getElem_cons_succ, List.getElem_cons_zero])
                refine held_take 12 _ _ rfl (by kernel_rfl) (by kernel_rfl) (by kernel_rfl) (fun _ _ _ h => h) (by rfl) hHeld (fun w hSw => by (try dsimp only at hSw); go_simp; try with_reducible rfl) ?_
                (try simp only [Act.put, List.setIfInBounds_toArray, List.set_cons_zero, List.set_cons_succ, List.getElem_toArray, List.getElem_cons_succ, List.getElem_cons_zero])
                refine held_take 13 _ _ rfl (by kernel_rfl) (by kernel_rfl) (by kernel_rfl) (fun _ _ _ h => h) (by rfl) hHeld (fun w hSw => by (try dsimp only at hSw); go_simp; try with_reducible rfl) ?_
                (try simp only [Act.put, List.setIfInBounds_toArray, List.set_cons_zero, List.set_cons_succ, List.getElem_toArray, List.getElem_cons_succ, List.getElem_cons_zero])
                refine held_take 14 _ _ rfl (by kernel_rfl) (by kernel_rfl) (by kernel_rfl) (fun _ _ _ h => h) (by rfl) hHeld (fun w hSw => by (try dsimp only at hSw); go_simp; try with_reducible rfl) ?_
                (try simp only [Act.put, List.setIfInBounds_toArray, List.set_cons_zero, List.set_cons_succ, List.getElem_toArray, List.getElem_cons_succ, List.getElem_cons_zero])
                refine held_take 15 _ _ rfl (by kernel_rfl) (by kernel_rfl) (by kernel_rfl) (fun _ _ _ h => h) (by rfl) hHeld (fun w hSw => by (try dsimp only at hSw); go_simp; try with_reducible rfl) ?_
                (try simp only [Act.put, List.setIfInBounds_toArray, List.set_cons_zero, List.set_cons_succ, List.getElem_toArray, List.getElem_cons_succ, List.getElem_cons_zero])
                refine wpAnyH_done (by kernel_rfl) ?_ _
                go_wp2_with fail
                (try simp only [Exit.inBlock, Exit.then])
                refine bodyPost_ret (results_tmp4 rfl _ _ _) rfl ?_
                obtain ⟨e1, e2, e3, e4⟩ := HR.out
                exact ⟨by rw [e1, e2, e3, e4]; rfl, (hbV.trans ((hb1.trans (hbF.mono hb1.size)).mono hbV.size)).drew⟩
              · have HN : Hid (∀ c, c < k + 1 → bad i j c = false) := Lib.hid (fun c hc => by
                  rcases Nat.lt_or_ge c k with h | h
                  · exact HKK.out c h
                  · rw [show c = k by omega, HB.out]; rfl)
                go_wp2_with fail
                go_roundw
                case rel => exact ⟨k + 1, by omega, by go_num, HN, hbF⟩
                case measure => simp [intOf]; omega
            · have hkti : ¬ (k : Int) ≤ (j : Int) := by omega
              have HN : Hid (∀ b c, b < j + 1 → c ≤ b → bad i b c = false) := Lib.hid (fun b c hb hc => by
                rcases Nat.lt_or_ge b j with h | h
                · exact HJ.out b c h hc
                · have : b = j := by omega
                  subst this; exact HKK.out c (by omega))
              go_wp2_with fail
              go_roundw
              case rel => exact ⟨j + 1, by omega, by go_num, HN, hbel3⟩
              case measure => simp [intOf]; omega
        · have hjti : ¬ (j : Int) ≤ (i : Int) := by omega
          have HN : Hid (∀ a b c, a < i + 1 → b ≤ a → c ≤ b → bad a b c = false) := Lib.hid (fun a b c ha hb hc => by
            rcases Nat.lt_or_ge a i with h | h
            · exact HI.out a b c h hb hc
            · have : a = i := by omega
              subst this; exact HJ.out b c (by omega) hc)
          go_wp2_with fail
          go_roundw
          case rel => exact ⟨i + 1, by omega, by go_num, HN, hbel2⟩
          case measure => simp [intOf]; omega
    · have hlti : ¬ (i : Int) < (S.length : Int) := by omega
      have HR := Lib.hid (HNON.out (fun a b c ha hb hc => HI.out a b c (by omega) hb hc))
      go_wp2_with fail
      (try simp only [Exit.inBlock, Exit.then])
      refine bodyPost_ret (results_tmp4 rfl _ _ _) rfl ?_
      obtain ⟨e1, e2, e3, e4⟩ := HR.out
      exact ⟨by rw [e1, e2, e3, e4]; rfl, hbV.trans ((hb1.trans (hbel.mono hb1.size)).mono hbV.size)⟩

set_option maxRecDepth 100000 in
set_option maxHeartbeats 1600000 in
theorem spec_IsArf (G : List Int) (a : Option Addr) (cap : Nat) (w : World) (hr : SlV w a (G.map (Value.int .i64))) (hb : G.length ≤ 1048576) :
    Calls Tryz.prog 31 #[.agg #[.slice a G.length cap]] w fun e w' => e = .returned (.bool (arfB G)) ∧ Below w.heap.size w w' := by
  have c1 := fun w2 (h : SlV w2 a (G.map (Value.int .i64))) => spec_ArfFailure G a cap w2 h hb
  have c2 := fun w2 (h : SlV w2 a (G.map (Value.int .i64))) => spec_IsSemigroup G a cap w2 h hb
  obtain ⟨V, hV⟩ : ∃ V, V = w.alloc (.cells #[.slice a G.length cap] 26) := ⟨_, rfl⟩
  have hbV : Below w.heap.size w V := by rw [hV]; exact box_below _ _
  have hcV : V.cell? ⟨w.heap.size, 0, none⟩ = some (.slice a G.length cap) := by rw [hV]; exact box_cell w _
  have hVs : w.heap.size < V.heap.size := by rw [hV]; simp
  have HV := Lib.hid hV
  have HRS := Lib.hid (fun w2 (h : Below V.heap.size V w2) => hr.below (hbV.trans (h.mono hbV.size)))
  have HKC := Lib.hid (fun w2 (h : Below V.heap.size V w2) => (h.cell (p := ⟨w.heap.size, 0, none⟩) (show w.heap.size < V.heap.size by omega)).trans hcV)
  clear hV hr
  have HR : Hid (arfB G = (isSgB G && !arfQ (smallL G) (hasN G))) := Lib.hid rfl
  have c1 := c1 V (HRS.out V (Below.refl _ _))
  generalize arfX (smallL G) (hasN G) = AX at *
  generalize arfY (smallL G) (hasN G) = AY at *
  generalize arfZ (smallL G) (hasN G) = AZ at *
  generalize arfQ (smallL G) (hasN G) = AQ at *
  generalize isSgB G = s at *
  go_enter Tryz.func31, Tryz.ntmps31
  go_wp2_with (rw [← HV.out])
  refine c1.mono ?_
  rintro e w1 ⟨rfl, hb1⟩
  have hkc := HKC.out _ hb1
  clear c1 hcV
  go_wp2_with fail
  refine (c2 _ (HRS.out _ hb1)).mono ?_
  rintro e w2 ⟨rfl, hb2⟩
  have hbF := hbV.trans ((hb1.trans (hb2.mono hb1.size)).mono hbV.size)
  cases s
  · go_wp2_with fail
    go_ret
    exact ⟨by rw [HR.out]; rfl, hbF⟩
  · go_wp2_with fail
    go_ret
    exact ⟨by rw [HR.out]; rfl, hbF⟩

end Go.Proofs.YtipfonpaaebjjaaGreat
