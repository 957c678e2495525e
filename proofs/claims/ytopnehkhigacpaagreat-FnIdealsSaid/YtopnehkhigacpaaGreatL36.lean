/-
  CHAPTER 10 OF THE REFERENCE: IsBelow, l10All, l10Top, MaximalOf, MinimalIn. (Own work.)
-/
import Derived.Test.YtopnehkhigacpaaGreatSgO
import Derived.Test.YtopnehkhigacpaaGreatCh4L
namespace Go.Proofs.YtopnehkhigacpaaGreat
open Go Go.RowKit

theorem row_from {W : World} {s e k : Nat} {v : Value} {xs : List Value} (h : W.ownsRow s e 1 v k xs) : ∀ r, v.ownBlock = some r → s ≤ r := by
  intro r hr
  rcases h.2 with ⟨rfl, _⟩ | ⟨g, cap, cur, rfl, hle, _⟩
  · simp [Value.ownBlock] at hr
  · simp [Value.ownBlock] at hr; omega


set_option maxRecDepth 100000 in
set_option maxHeartbeats 400000 in
theorem spec_l10All (L : List Int) (a : Option Addr) (cap : Nat) (w : World) (hr : SlV w a (L.map (Value.int .i64))) (hb : L.length ≤ maxLen) :
    Calls Tryz.prog 104 #[.slice a L.length cap] w fun e w' => e = .returned (.bool (L.all small)) ∧ w' = w := by
  unfold maxLen at hb
  go_enter Tryz.func104, Tryz.ntmps104
  go_wp2_with fail
  go_loop [3] (fun i => ∃ k : Nat, k ≤ L.length ∧ i = .int .i64 (k : Int) ∧ (L.take k).all small = true) (fun i => L.length - (intOf i).toNat)
  case atStart => exact ⟨0, Nat.zero_le _, rfl, by simp⟩
  case round =>
    obtain ⟨k, hk, rfl, hal⟩ := hrel
    have HA := Lib.hid hal
    clear hal
    by_cases hlt : k < L.length
    · obtain ⟨b, off, rfl, hbs, hc⟩ := hr.open (by intro h; rw [List.map_eq_nil_iff] at h; subst h; simp at hlt)
      have hcell : w.cell? ⟨b, off + k, none⟩ = some (.int .i64 L[k]) := hc k _ (by simp [hlt])
      have HT : Hid (L.take (k + 1) = L.take k ++ [L[k]]) := Lib.hid (by rw [List.take_add_one, List.getElem?_eq_getElem hlt]; rfl)
      have HM := Lib.hid (List.getElem_mem hlt)
      clear hc hr
      have hs := fun w => l2Small_any L[k] w
      cases hsm : small L[k]
      · have HR : Hid (L.all small = false) := Lib.hid (by
          rw [List.all_eq_false]
          exact ⟨L[k], HM.out, by rw [hsm]; simp⟩)
        rw [hsm] at hs
        clear hsm HM HT
        generalize L[k] = x at *
        go_wp2_with fail
        refine (hs _).mono ?_
        rintro e w' ⟨rfl, rfl⟩
        go_wp2_with fail
        go_ret
        exact ⟨by rw [HR.out]; rfl, rfl⟩
      · have HN : Hid ((L.take (k + 1)).all small = true) := Lib.hid (by rw [HT.out, List.all_append, HA.out]; simp [hsm])
        rw [hsm] at hs
        clear hsm HM HT
        generalize L[k] = x at *
        go_wp2_with fail
        refine (hs _).mono ?_
        rintro e w' ⟨rfl, rfl⟩
        go_wp2_with fail
        go_round
        case rel => exact ⟨k + 1, by omega, by go_num, HN.out⟩
        case measure => simp [intOf]; omega
    · obtain rfl : k = L.length := by omega
      have HR : Hid (L.all small = true) := Lib.hid (by
        have := HA.out
        rw [List.take_of_length_le (Nat.le_refl _)] at this
        exact this)
      clear hr
      go_wp2_with fail
      go_ret
      exact ⟨by rw [HR.out]; rfl, rfl⟩

set_option maxRecDepth 100000 in
set_option maxHeartbeats 3200000 in
theorem spec_l10Top (G L : List Int) (dn : Bool) (a : Option Addr) (cap : Nat) (al : Option Addr) (cl : Nat) (w : World) (hr : SlV w a (G.map (Value.int .i64))) (hrl : SlV w al (L.map (Value.int .i64))) (hb : G.length ≤ 1048576) (hbl : L.length ≤ 1048576) :
    Calls Tryz.prog 80 #[.agg #[.slice a G.length cap], .slice al L.length cl, .bool dn] w (SlPost (topL G L dn) w) := by
  obtain ⟨i0, hi, hz0, hz1, hz2⟩ := info_parts infoIntL
  obtain ⟨W, hW⟩ : ∃ W, W = w.alloc (.cells #[.slice a G.length cap] 26) := ⟨_, rfl⟩
  have hbW : Below w.heap.size w W := by rw [hW]; exact box_below _ _
  have hc0 : W.cell? ⟨w.heap.size, 0, none⟩ = some (.slice a G.length cap) := by rw [hW]; exact box_cell w _
  have hWs : w.heap.size < W.heap.size := by rw [hW]; simp
  have hWz : W.heap.size = w.heap.size + 1 := by rw [hW]; simp
  have HW := Lib.hid hW
  clear hW
  have hown0 : (W.alloc (.cells #[] 3)).ownsRow (w.heap.size + 1) 3 1 (.slice (some ⟨W.heap.size, 0, none⟩) 0 0) 0 [] := World.ownsRow_lit W #[] 0 (Nat.le_of_eq hWz.symm) (by simp) rfl
  rw [hWz] at hown0
  have hbel0 := hbW.alloc (o := .cells #[] 3) hbW.size
  have hcA : (W.alloc (.cells #[] 3)).cell? ⟨w.heap.size, 0, none⟩ = some (.slice a G.length cap) := (World.cell?_alloc_lt W _ ⟨w.heap.size, 0, none⟩ hWs).trans hc0
  have c1 := spec_IsSemigroup G a cap (W.alloc (.cells #[] 3)) (hr.below hbel0) hb
  have hz : w.heap.size < (W.alloc (.cells #[] 3)).heap.size := by simp; omega
  have cA := fun w' (h : SlV w' al (L.map (Value.int .i64))) => spec_l10All L al cl w' h (by unfold maxLen; omega)
  cases hs : isSgB G
  · have HE := Lib.hid (topL_no (L := L) (dn := dn) (.inl hs))
    rw [hs] at c1
    clear hs hr hrl cA
    go_enter Tryz.func80, Tryz.ntmps80
    go_wp2_with fail
    rw [← HW.out]
    refine c1.mono ?_
    rintro e w1 ⟨rfl, hb1⟩
    have hown1 := owns_below hown0 hb1
    have hbel1 := hbel0.trans (hb1.mono hbel0.size)
    go_wp2_with fail
    go_ret
    exact ⟨_, rfl, by rw [HE.out]; exact owns_wider hown1 (Nat.le_succ _), hbel1⟩
  · rw [hs] at c1
    have cL := fun (y : Int) w' (h : SlV w' a (G.map (Value.int .i64))) => spec_l3Has G y a cap w' h hs
    cases hal : L.all small
    · have HE := Lib.hid (topL_no (G := G) (dn := dn) (.inr hal))
      rw [hal] at cA
      clear hs hr hal cL
      go_enter Tryz.func80, Tryz.ntmps80
      go_wp2_with fail
      rw [← HW.out]
      refine c1.mono ?_
      rintro e w1 ⟨rfl, hb1⟩
      have hown1 := owns_below hown0 hb1
      have hbel1 := hbel0.trans (hb1.mono hbel0.size)
      have c2 := cA w1 (hrl.below hbel1)
      go_wp2_with fail
      refine c2.mono ?_
      rintro e w2 ⟨rfl, rfl⟩
      go_wp2_with fail
      go_ret
      exact ⟨_, rfl, by rw [HE.out]; exact owns_wider hown1 (Nat.le_succ _), hbel1⟩
    · have HT := Lib.hid (topL_in (dn := dn) hs hal)
      have HS := Lib.hid fun x hx => small_iff.1 (List.all_eq_true.1 hal x hx)
      rw [hal] at cA
      clear hs hal
      go_enter Tryz.func80, Tryz.ntmps80
      go_wp2_with fail
      rw [← HW.out]
      refine c1.mono ?_
      rintro e w1 ⟨rfl, hb1⟩
      have hown1 := owns_below hown0 hb1
      have hbel1 := hbel0.trans (hb1.mono hbel0.size)
      have hc1 : w1.cell? ⟨w.heap.size, 0, none⟩ = some (.slice a G.length cap) := (hb1.cell (p := ⟨w.heap.size, 0, none⟩) hz).trans hcA
      have hz1' := Nat.lt_of_lt_of_le hz hb1.size
      have c2 := cA w1 (hrl.below hbel1)
      clear c1 hb1 hown0 hbel0 hcA hc0 hbW hWs hz
      go_wp2_with fail
      refine c2.mono ?_
      rintro e w2 ⟨rfl, hww⟩
      subst hww
      clear c2 cA
      go_wp2_with fail
      go_loopw [7, 8] (fun v i wr => ∃ (k : Nat) (M : List Int), k ≤ L.length ∧ i = .int .i64 (k : Int) ∧ Hid (M = (L.take k).filter (topB G L dn)) ∧ M.length ≤ k ∧ wr.ownsRow (w.heap.size + 1) 3 1 v M.length (M.map (Value.int .i64)) ∧ w.heap.size < wr.heap.size ∧ wr.cell? ⟨w.heap.size, 0, none⟩ = some (.slice a G.length cap) ∧ Below w.heap.size w wr) (fun _ i _ => L.length - (intOf i).toNat)
      case atStart => exact ⟨0, [], Nat.zero_le _, rfl, Lib.hid (by simp), by simp, hown1, hz1', hc1, hbel1⟩
      case round =>
        clear hown1 hz1' hc1 hbel1
        obtain ⟨k, M, hk, rfl, HMe, hML, hown, hzr, hkb, hbel⟩ := hrel
        by_cases hlt : k < L.length
        · have hlti : (k : Int) < (L.length : Int) := by omega
          obtain ⟨bl, ol, rfl, hbs, hcl⟩ := hrl.open (by intro h; rw [List.map_eq_nil_iff] at h; subst h; simp at hlt)
          have HC : Hid (∀ w', Below w.heap.size w w' → ∀ j (hj : j < L.length), w'.cell? ⟨bl, ol + j, none⟩ = some (.int .i64 L[j])) := Lib.hid fun w' h j hj => (h.cell (p := ⟨bl, ol + j, none⟩) hbs).trans (hcl j _ (by simp [hj]))
          obtain ⟨hx0, hx1⟩ := HS.out L[k] (List.getElem_mem hlt)
          have HFT := Lib.hid (filter_take (topB G L dn) hlt)
          rw [← HMe.out] at HFT
          have HX : Hid (∀ w', Below w.heap.size w w' → w'.cell? ⟨bl, ol + k, none⟩ = some (.int .i64 L[k])) := Lib.hid fun w' h => HC.out w' h k hlt
          have hk0 : (0 : Int) ≤ (k : Int) := by omega
          have HQ : Hid (topB G L dn L[k] = L.all fun b => decide (L[k] = b) || !hasN G (behN dn L[k] b)) := Lib.hid rfl
          clear hcl
          generalize L[k] = x at *
          go_wp2_with fail
          go_loopw [9, 10] (fun f i w2 => ∃ n : Nat, n ≤ L.length ∧ i = .int .i64 (n : Int) ∧ f = .bool ((L.take n).all fun b => decide (x = b) || !hasN G (behN dn x b)) ∧ Below wr.heap.size wr w2) (fun _ i _ => L.length - (intOf i).toNat)
          case atStart => exact ⟨0, Nat.zero_le _, rfl, by simp, Below.refl _ _⟩
          case round =>
            rename World => w2
            obtain ⟨n, hn, rfl, rfl, hb2⟩ := hrel
            have hbel2 := hbel.trans (hb2.mono hbel.size)
            have hcx := HX.out w2 hbel2
            by_cases hln : n < L.length
            · have hlni : (n : Int) < (L.length : Int) := by omega
              have hcy := HC.out w2 hbel2 n hln
              obtain ⟨hy0, hy1⟩ := HS.out L[n] (List.getElem_mem hln)
              have HA := Lib.hid (all_take (fun b => decide (x = b) || !hasN G (behN dn x b)) hln)
              have hn0 : (0 : Int) ≤ (n : Int) := by omega
              have hkb2 : w2.cell? ⟨w.heap.size, 0, none⟩ = some (.slice a G.length cap) := (hb2.cell (p := ⟨w.heap.size, 0, none⟩) hzr).trans hkb
              have hrG := hr.below hbel2
              generalize L[n] = y at *
              have hw1 : IntKind.i64.wrap (y - x) = y - x := IntWalk.i64_in _ (by omega)
              have hw2 : IntKind.i64.wrap (x - y) = x - y := IntWalk.i64_in _ (by omega)
              generalize (L.take n).all (fun b => decide (x = b) || !hasN G (behN dn x b)) = fi at *
              cases fi
              · clear cL
                go_wp2_with fail
                go_roundw
                case rel => exact ⟨n + 1, by omega, by go_num, by rw [HA.out]; rfl, hb2⟩
                case measure => simp [intOf]; omega
              · by_cases hxy : x = y
                · have HA2 : Hid (((L.take (n + 1)).all fun b => decide (x = b) || !hasN G (behN dn x b)) = true) := Lib.hid (by rw [HA.out, Bool.true_and]; rw [decide_eq_true hxy]; rfl)
                  subst hxy
                  clear cL HA
                  go_wp2_with fail
                  go_roundw
                  case rel => exact ⟨n + 1, by omega, by go_num, by rw [HA2.out], hb2⟩
                  case measure => simp [intOf]; omega
                · have HA2 : Hid (((L.take (n + 1)).all fun b => decide (x = b) || !hasN G (behN dn x b)) = !hasN G (behN dn x y)) := Lib.hid (by rw [HA.out, Bool.true_and]; rw [decide_eq_false hxy, Bool.false_or])
                  have hd1 : (x == y) = false := by rw [beq_eq_false_iff_ne]; exact hxy
                  replace hxy := Lib.hid hxy
                  clear HA
                  cases dn
                  · have c3 := cL (y - x) w2 hrG
                    rw [show behN false x y = y - x from rfl] at HA2
                    generalize hasN G (y - x) = hh at *
                    clear cL
                    go_wp2_with fail
                    refine c3.mono ?_
                    rintro e w3 ⟨rfl, hb3⟩
                    have hb23 := hb2.trans (hb3.mono hb2.size)
                    clear c3
                    cases hh
                    · go_wp2_with fail
                      go_roundw
                      case rel => exact ⟨n + 1, by omega, by go_num, by rw [HA2.out]; rfl, hb23⟩
                      case measure => simp [intOf]; omega
                    · go_wp2_with fail
                      go_roundw
                      case rel => exact ⟨n + 1, by omega, by go_num, by rw [HA2.out]; rfl, hb23⟩
                      case measure => simp [intOf]; omega
                  · have c3 := cL (x - y) w2 hrG
                    rw [show behN true x y = x - y from rfl] at HA2
                    generalize hasN G (x - y) = hh at *
                    clear cL
                    go_wp2_with fail
                    refine c3.mono ?_
                    rintro e w3 ⟨rfl, hb3⟩
                    have hb23 := hb2.trans (hb3.mono hb2.size)
                    clear c3
                    cases hh
                    · go_wp2_with fail
                      go_roundw
                      case rel => exact ⟨n + 1, by omega, by go_num, by rw [HA2.out]; rfl, hb23⟩
                      case measure => simp [intOf]; omega
                    · go_wp2_with fail
                      go_roundw
                      case rel => exact ⟨n + 1, by omega, by go_num, by rw [HA2.out]; rfl, hb23⟩
                      case measure => simp [intOf]; omega
            · obtain rfl : n = L.length := by omega
              rw [List.take_length, ← HQ.out]
              have hown2 := owns_below hown hb2
              have hl1 : w.heap.size < w2.heap.size := Nat.lt_of_lt_of_le hzr hb2.size
              have hkb2 : w2.cell? ⟨w.heap.size, 0, none⟩ = some (.slice a G.length cap) := (hb2.cell (p := ⟨w.heap.size, 0, none⟩) hzr).trans hkb
              clear cL HQ hown hbel hzr hkb hb2 HC HX
              cases hq : topB G L dn x
              · rw [hq] at HFT
                clear hq
                go_wp2_with fail
                go_roundw
                case rel => exact ⟨k + 1, M, by omega, by go_num, Lib.hid (by rw [HFT.out]; simp), by omega, hown2, hl1, hkb2, hbel2⟩
                case measure => simp [intOf]; omega
              · rw [hq] at HFT
                clear hq
                have hsz2 := hbel2.size
                go_wp2_with (first | (at_builtin; refine wpList_append_own _ rfl _ _ 24 rfl (w.heap.size + 1) 3 i0 (Value.int .i64 0) 1 8 Tryz.underlying24 hi hz0 hz1 hz2 rfl (by decide) _ _ _ rfl (hown2.alloc _) ⟨_, 0, none⟩ 1 1 [.int .i64 x] rfl rfl (World.news_of_block (cs := #[.int .i64 x]) (t := 3) (fr := (0, 0)) (heap_alloc_new _ _)) (by simp [Value.oneCell']) (by unfold maxLen; omega) (by omega) (by simp; omega) ?_; intro v6 w6 hown6 hg6 _))
                have hne := row_from hown2
                have hkb6 : w6.cell? ⟨w.heap.size, 0, none⟩ = some (.slice a G.length cap) := hg6.cell ((World.cell?_alloc_lt w2 _ ⟨w.heap.size, 0, none⟩ hl1).trans hkb2) (fun e => by have := hne _ e.symm; dsimp only at this; omega)
                have hbel6 := (hbel2.alloc hsz2 (.cells #[.int .i64 x] 3)).grown hg6 (by simp; omega) (fun j hj => by have := hne j hj; omega)
                have hl6 : w.heap.size < w6.heap.size := by have := hg6.size; simp at this; omega
                have HO := Lib.hid hown6
                clear hown6 hg6 hown2 hcx hkb2
                go_roundw
                case rel => exact ⟨k + 1, M ++ [x], by omega, by go_num, Lib.hid (by rw [HFT.out]; simp), by rw [List.length_append, List.length_singleton]; omega, by rw [List.length_append, List.length_singleton, List.map_append]; exact HO.out, hl6, hkb6, hbel6⟩
                case measure => simp [intOf]; omega
        · obtain rfl : k = L.length := by omega
          have HE : Hid (topL G L dn = sortL M) := Lib.hid (by rw [HT.out, HMe.out, List.take_length])
          obtain ⟨am, cm, rfl, rX⟩ := row_open hown
          have c5 := spec_SortList M am cm wr rX.slv (by omega)
          have hbz := hbel.size
          clear hown rX cL
          go_wp2_with fail
          refine c5.mono ?_
          rintro e w5 ⟨g5, k5, rfl, ho5, hb5⟩
          have HO := Lib.hid ho5
          have hbel5 := hbel.trans (hb5.mono hbz)
          clear ho5 c5
          go_wp2_with fail
          go_ret
          exact ⟨_, rfl, by rw [HE.out]; exact owns_wider HO.out hbz, hbel5⟩


set_option maxRecDepth 100000 in
set_option maxHeartbeats 800000 in
theorem spec_MinimalIn (G L : List Int) (a : Option Addr) (cap : Nat) (al : Option Addr) (cl : Nat) (w : World) (hr : SlV w a (G.map (Value.int .i64))) (hrl : SlV w al (L.map (Value.int .i64))) (hb : G.length ≤ 1048576) (hbl : L.length ≤ 1048576) :
    Calls Tryz.prog 42 #[.agg #[.slice a G.length cap], .slice al L.length cl] w (SlPost (topL G L true) w) := by
  have hb0 := box_below w (.cells #[.slice a G.length cap] 26)
  have hc0 := box_cell w (.slice a G.length cap)
  have c1 := spec_l10Top G L true a cap al cl _ (hr.below hb0) (hrl.below hb0) hb hbl
  clear hr hrl
  generalize topL G L true = M at *
  go_enter Tryz.func42, Tryz.ntmps42
  go_wp2_with fail
  refine c1.mono ?_
  rintro e w1 ⟨v, rfl, ho, hb1⟩
  have HO := Lib.hid ho
  have hb01 := hb0.trans (hb1.mono hb0.size)
  clear ho c1
  go_wp2_with fail
  go_ret
  exact ⟨_, rfl, owns_wider HO.out hb0.size, hb01⟩

end Go.Proofs.YtopnehkhigacpaaGreat
