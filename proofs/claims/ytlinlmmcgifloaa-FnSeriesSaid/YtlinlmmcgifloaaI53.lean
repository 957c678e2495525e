/-
  CONTRACTS of the program's chapter 15: productOf, MultiplyLists. (Own work.)
-/
import Derived.Test.YtlinlmmcgifloaaSgPr
import Derived.Test.YtlinlmmcgifloaaI52
import Derived.Test.YtlinlmmcgifloaaCh11M
namespace Go.Proofs.Ytlinlmmcgifloaa
open Go Go.RowKit

theorem mulW_last {A B : List Int} {M : Nat} (hM : M + 1 = A.length + B.length) : (mulW A B).length = M ∧ (mulW A B).map (Value.int .i64) = tabJ (cvP A B A.length 0) M := by
  unfold mulW
  rw [show A.length + B.length - 1 = M by omega]
  refine ⟨by simp, ?_⟩
  rw [List.map_map]
  unfold tabJ
  refine List.map_congr_left fun j _ => ?_
  show Value.int .i64 _ = Value.int .i64 _
  unfold cvP
  rw [if_neg (by omega), Int.add_zero]; rfl
theorem prodW_pos {LL : List (List Int)} (h : ∀ L ∈ LL, 1 ≤ L.length) (k : Nat) (hk : k ≤ LL.length) : 1 ≤ (prodW (LL.take k)).length := by
  rw [prodW_len h k hk]; omega

set_option maxRecDepth 100000 in
set_option maxHeartbeats 1600000 in
theorem impl_productOf (LL : List (List Int)) (a : Option Addr) (cap : Nat) (w : World) (hr : Sl2 w a LL) (hb : LL.length ≤ 1048576) (h1 : ∀ L ∈ LL, 1 ≤ L.length ∧ L.length ≤ 1048576) (h2 : ∀ k, k ≤ LL.length → (prodW (LL.take k)).length ≤ 1048576) :
    Calls Try.prog 93 #[.slice a LL.length cap] w (SlPost (prodW LL) w) := by
  obtain ⟨i0, hi, hz0, hz1, hz2⟩ := info_parts infoIntL
  have HPos := Lib.hid (prodW_pos (fun L hL => (h1 L hL).1))
  have H1 := Lib.hid h1
  have H2 := Lib.hid h2
  have hown0 : (w.alloc (.cells #[.int .i64 1] 3)).ownsRow w.heap.size 3 1 (.slice (some ⟨w.heap.size, 0, none⟩) 1 1) 1 [.int .i64 1] := World.ownsRow_lit w #[.int .i64 1] 1 (Nat.le_refl _) (by decide) rfl
  have hbel0 : Below w.heap.size w (w.alloc (.cells #[.int .i64 1] 3)) := (Below.refl _ _).alloc (Nat.le_refl _) _
  have HO := Lib.hid hown0
  have HB := Lib.hid hbel0
  clear h1 h2 hown0 hbel0
  go_enter Try.func93, Try.ntmps93
  go_wp2_with fail
  go_loopw [3, 14] (fun v i wr => ∃ (k n c p : Nat), k ≤ LL.length ∧ i = .int .i64 (k : Int) ∧ Hid (n = (prodW (LL.take k)).length) ∧ v = .slice (some ⟨p, 0, none⟩) n c ∧ w.heap.size ≤ p ∧ p < wr.heap.size ∧ Hid (wr.ownsRow w.heap.size 3 1 (.slice (some ⟨p, 0, none⟩) n c) n ((prodW (LL.take k)).map (Value.int .i64))) ∧ Below w.heap.size w wr) (fun _ i _ => LL.length - (intOf i).toNat)
  case atStart => exact ⟨0, 1, 1, w.heap.size, Nat.zero_le _, rfl, Lib.hid rfl, rfl, Nat.le_refl _, by simp, Lib.hid HO.out, HB.out⟩
  case round =>
    clear HO HB
    obtain ⟨k, n, c, p, hk, rfl, HN, rfl, hp0, hp1, HOwn, hbel⟩ := hrel
    have hpos := HPos.out k hk
    have hmax := H2.out k hk
    rw [← HN.out] at hpos hmax
    have hsz := hbel.size
    by_cases hlt : k < LL.length
    · have hlti : (k : Int) < (LL.length : Int) := by omega
      have hk0 : (0 : Int) ≤ (k : Int) := by omega
      have HT := Lib.hid (prodW_take hlt)
      obtain ⟨hL1, hL2⟩ := H1.out LL[k] (List.getElem_mem hlt)
      have hn1 := H2.out (k + 1) hlt
      obtain ⟨bq, oq, q, cq, ha, hbq, hcq, hsq⟩ := (hr.below hbel).at hlt
      subst ha
      clear HPos H1 H2
      have hPl := HN.out
      generalize LL[k] = L at *
      generalize prodW (LL.take k) = P at *
      obtain ⟨M, hM⟩ : ∃ M, M + 1 = P.length + L.length := ⟨P.length + L.length - 1, by omega⟩
      have HML := Lib.hid (mulW_last hM)
      have hMi : (n : Int) + (L.length : Int) - 1 = (M : Int) := by omega
      have hMb : M ≤ 2097152 := by omega
      obtain ⟨bL, oL, rfl, hbL, hcL⟩ := hsq.open (by intro h; rw [List.map_eq_nil_iff] at h; subst h; simp at hL1)
      have HCP : Hid (∀ w', Below wr.heap.size wr w' → ∀ i (h : i < P.length), w'.cell? ⟨p, i, none⟩ = some (.int .i64 P[i])) := Lib.hid fun w' h i hi' => (h.cell (p := ⟨p, i, none⟩) hp1).trans (by have := HOwn.out.cellAt i (by omega); rw [List.getElem?_map, List.getElem?_eq_getElem hi'] at this; exact this)
      have HCL : Hid (∀ w', Below wr.heap.size wr w' → ∀ i (h : i < L.length), w'.cell? ⟨bL, oL + i, none⟩ = some (.int .i64 L[i])) := Lib.hid fun w' h i hi' => (h.cell (p := ⟨bL, oL + i, none⟩) hbL).trans (hcL i _ (by simp [hi']))
      clear hsq hbL hcL
      go_wp2_with (at_make; refine wpList_make_full _ rfl _ _ 24 rfl wr.heap.size 3 i0 (Value.int .i64 0) 1 Try.underlying24 hi hz0 hz1 .i64 .i64 _ _ M rfl rfl (by first | rfl | (simp; done) | omega) (by first | rfl | (simp; done) | omega) (by rw [hz2]; omega) (by unfold maxLen; omega) (Nat.le_refl _) ?_; intro w1 hown hgrow; obtain ⟨HO, HB⟩ := tabM0 P L M hown hgrow; clear hown hgrow)
      clear hcq hbq
      go_loopw [27] (fun i wq => ∃ k : Nat, k ≤ P.length ∧ i = .int .i64 (k : Int) ∧ wq.ownsRow wr.heap.size 3 1 (.slice (some ⟨wr.heap.size, 0, none⟩) M M) M (tabJ (cvP P L k 0) M) ∧ Below wr.heap.size wr wq) (fun i _ => P.length - (intOf i).toNat)
      case atStart => exact ⟨0, Nat.zero_le _, rfl, HO.out, HB.out⟩
      case round =>
        clear HO HB
        rename World => wq
        obtain ⟨i, hile, rfl, hown, hbel1⟩ := hrel
        by_cases hlt1 : i < P.length
        · have hlti1 : (i : Int) < (n : Int) := by omega
          have hi0 : (0 : Int) ≤ (i : Int) := by omega
          have hci : wq.cell? ⟨p, i, none⟩ = some (.int .i64 P[i]) := HCP.out _ hbel1 i hlt1
          have HO := Lib.hid hown
          have HB := Lib.hid hbel1
          clear hown hbel1
          go_wp2_with fail
          go_loopw [34] (fun i' wz => ∃ k : Nat, k ≤ L.length ∧ i' = .int .i64 (k : Int) ∧ wz.ownsRow wr.heap.size 3 1 (.slice (some ⟨wr.heap.size, 0, none⟩) M M) M (tabJ (cvP P L i k) M) ∧ Below wr.heap.size wr wz) (fun i' _ => L.length - (intOf i').toNat)
          case atStart => exact ⟨0, Nat.zero_le _, rfl, HO.out, HB.out⟩
          case round =>
            clear HO HB hci
            rename World => wz
            obtain ⟨k2, hkle, rfl, hown, hbel2⟩ := hrel
            by_cases hltk : k2 < L.length
            · have hltki : (k2 : Int) < (L.length : Int) := by omega
              obtain ⟨t, ht⟩ : ∃ t : Nat, t = i + k2 := ⟨_, rfl⟩
              have hct : wz.cell? ⟨wr.heap.size, t, none⟩ = some (.int .i64 (cvP P L i k2 t)) := by have := hown.cellAt t (by omega); rw [tabJ_get _ (by omega)] at this; exact this
              have hcb : wz.cell? ⟨bL, oL + k2, none⟩ = some (.int .i64 L[k2]) := HCL.out _ hbel2 k2 hltk
              have hw1 : IntKind.i64.wrap ((i : Int) + (k2 : Int)) = (t : Int) := by rw [IntWalk.i64_in _ (by omega)]; omega
              have hwe : (i : Int) + (k2 : Int) = (t : Int) := by omega
              obtain ⟨pr, hpr⟩ : ∃ pr, IntKind.i64.wrap (P[i] * L[k2]) = pr := ⟨_, rfl⟩
              have hpr2 : wrap64 (P[i] * L[k2]) = pr := by rw [← IntWalk.i64_left]; exact hpr
              have hqq : IntKind.i64.wrap (cvP P L i k2 t + pr) = cvP P L i (k2 + 1) t := by subst ht; rw [cvP_here hlt1 hltk, hpr]
              have hqq2 : wrap64 (cvP P L i k2 t + pr) = cvP P L i (k2 + 1) t := by rw [← IntWalk.i64_left]; exact hqq
              have hst := hown.stored t (.int .i64 (cvP P L i (k2 + 1) t))
              rw [tabJ_set (g := cvP P L i (k2 + 1)) _ rfl (fun j hj => cvP_else P L (by omega))] at hst
              have HST := Lib.hid hst.1
              have hfz : wz.frozen? ⟨wr.heap.size, t, none⟩ = false := hown.frozenAt t
              have HB2 := Lib.hid (hbel2.setCell (p := ⟨wr.heap.size, t, none⟩) (Nat.le_refl _) (.int .i64 (cvP P L i (k2 + 1) t)))
              have hk20 : (0 : Int) ≤ (k2 : Int) := by omega
              have ht0 : (0 : Int) ≤ (t : Int) := by omega
              have htm : (t : Int) < (M : Int) := by omega
              clear hst hown hbel2 ht
              generalize cvP P L i k2 t = cj at *
              generalize cvP P L i (k2 + 1) t = cn at *
              generalize P[i] = ai at *
              generalize L[k2] = bk at *
              go_wp2_with fail
              go_roundw
              case rel => exact ⟨k2 + 1, by omega, by go_num, HST.out, HB2.out⟩
              case measure => simp [intOf]; omega
            · obtain rfl : k2 = L.length := by omega
              have hltki : ¬ ((L.length : Nat) : Int) < (L.length : Int) := by omega
              rw [tabJ_congr (g := cvP P L (i + 1) 0) (fun j _ => cvP_full P L (Nat.le_refl _) i j)] at hown
              have HO := Lib.hid hown
              clear hown
              go_wp2_with fail
              go_roundw
              case rel => exact ⟨i + 1, by omega, by go_num, HO.out, hbel2⟩
              case measure => simp [intOf]; omega
        · have hie : i = P.length := by omega
          have hlti1 : ¬ (i : Int) < (n : Int) := by omega
          have HO := Lib.hid (show wq.ownsRow wr.heap.size 3 1 (.slice (some ⟨wr.heap.size, 0, none⟩) M M) M ((mulW P L).map (Value.int .i64)) by rw [HML.out.2, ← hie]; exact hown)
          have hwz := hown.lt wr.heap.size rfl
          have HBF := Lib.hid (hbel.trans (hbel1.mono hbel.size))
          clear hown hbel hie
          go_wp2_with fail
          go_roundw
          case rel => exact ⟨k + 1, M, M, wr.heap.size, by omega, by go_num, Lib.hid (by rw [HT.out, HML.out.1]), rfl, hsz, hwz.2, Lib.hid (by rw [HT.out]; exact owns_wider HO.out hsz), HBF.out⟩
          case measure => simp [intOf]; omega
    · obtain rfl : k = LL.length := by omega
      have hlti : ¬ ((LL.length : Nat) : Int) < (LL.length : Int) := by omega
      rw [List.take_length] at HN HOwn
      clear hr HPos H1 H2
      go_wp2_with fail
      go_ret
      exact ⟨_, rfl, by rw [← HN.out]; exact HOwn.out, hbel⟩

/-- Two slices lie in a new row of slices. -/
theorem sl2_two {w w' : World} {A B : List Int} {a b : Option Addr} {ca cb : Nat} {p : Nat} (ha : SlV w a (A.map (Value.int .i64))) (hb : SlV w b (B.map (Value.int .i64))) (h : Below w.heap.size w w') (hp : p < w'.heap.size)
    (h0 : w'.cell? ⟨p, 0, none⟩ = some (.slice a A.length ca)) (h1 : w'.cell? ⟨p, 1, none⟩ = some (.slice b B.length cb)) : Sl2 w' (some ⟨p, 0, none⟩) [A, B] := by
  refine ⟨[.slice a A.length ca, .slice b B.length cb], .inr ⟨p, 0, rfl, hp, fun i u hu => ?_⟩, rfl, fun i h1 h2 => ?_⟩
  · match i, hu with
    | 0, hu => simp at hu; subst hu; exact h0
    | 1, hu => simp at hu; subst hu; exact h1
    | i + 2, hu => simp at hu
  · match i, h1, h2 with
    | 0, _, _ => exact ⟨a, ca, rfl, ha.below h⟩
    | 1, _, _ => exact ⟨b, cb, rfl, hb.below h⟩
    | i + 2, h1, _ => exact absurd h1 (by simp)

set_option maxRecDepth 100000 in
set_option maxHeartbeats 1600000 in
theorem impl_MultiplyLists (A B : List Int) (a : Option Addr) (ca : Nat) (b : Option Addr) (cb : Nat) (w : World) (hra : SlV w a (A.map (Value.int .i64))) (hrb : SlV w b (B.map (Value.int .i64))) (hba : A.length ≤ 1048576) (hbb : B.length ≤ 1048576) :
    Calls Try.prog 36 #[.slice a A.length ca, .slice b B.length cb] w (SlPost (mulL A B) w) := by
  have c1 := impl_areCoefficients A a ca w hba
  have c2 := impl_areCoefficients B b cb w hbb
  cases hA : inB (A.length : Int) 1 500
  · have HE : Hid (mulL A B = []) := Lib.hid (by unfold mulL; rw [hA]; rfl)
    rw [hA] at c1
    clear hA hra hrb c2
    go_enter Try.func36, Try.ntmps36
    go_wp2_with fail
    refine c1.mono ?_
    rintro e w2 ⟨rfl, hww⟩
    subst hww
    go_wp2_with fail
    go_ret
    exact ⟨_, rfl, by rw [HE.out]; exact World.ownsRow_nil _ _ _ _, Below.refl _ _⟩
  · rw [hA] at c1
    cases hB : inB (B.length : Int) 1 500
    · have HE : Hid (mulL A B = []) := Lib.hid (by unfold mulL; rw [hA, hB]; rfl)
      rw [hB] at c2
      clear hA hB hra hrb
      go_enter Try.func36, Try.ntmps36
      go_wp2_with fail
      refine c1.mono ?_
      rintro e w2 ⟨rfl, hww⟩
      subst hww
      go_wp2_with fail
      refine c2.mono ?_
      rintro e w3 ⟨rfl, hww⟩
      subst hww
      go_wp2_with fail
      go_ret
      exact ⟨_, rfl, by rw [HE.out]; exact World.ownsRow_nil _ _ _ _, Below.refl _ _⟩
    · rw [hB] at c2
      obtain ⟨hA0, hA1⟩ := inB_true hA
      obtain ⟨hB0, hB1⟩ := inB_true hB
      have HE := Lib.hid (prodW_two hA hB)
      obtain ⟨U, hU⟩ : ∃ U, U = w.alloc (.cells #[.slice a A.length ca, .slice b B.length cb] 24) := ⟨_, rfl⟩
      have hbU : Below w.heap.size w U := by rw [hU]; exact box_below _ _
      have hUs : w.heap.size < U.heap.size := by rw [hU]; simp
      have hS : Sl2 U (some ⟨w.heap.size, 0, none⟩) [A, B] := sl2_two hra hrb hbU hUs (by rw [hU]; exact (Arr.new w 24 [.slice a A.length ca, .slice b B.length cb]).cell 0) (by rw [hU]; exact (Arr.new w 24 [.slice a A.length ca, .slice b B.length cb]).cell 1)
      have c3 := impl_productOf [A, B] (some ⟨w.heap.size, 0, none⟩) 2 U hS (by simp) (fun L hL => by simp at hL; rcases hL with rfl | rfl <;> omega) (fun k hk => by
        rw [prodW_len (fun L hL => by simp at hL; rcases hL with rfl | rfl <;> omega) k hk]
        match k, hk with
        | 0, _ => simp
        | 1, _ => simp; omega
        | 2, _ => simp; omega
        | k + 3, hk => simp at hk)
      have HU := Lib.hid hU
      clear hA hB hra hrb hU hS
      go_enter Try.func36, Try.ntmps36
      go_wp2_with fail
      refine c1.mono ?_
      rintro e w2 ⟨rfl, hww⟩
      subst hww
      go_wp2_with fail
      refine c2.mono ?_
      rintro e w3 ⟨rfl, hww⟩
      subst hww
      go_wp2_with fail
      rw [← HU.out]
      refine c3.mono ?_
      rintro e w4 ⟨v, rfl, ho, hb4⟩
      go_wp2_with fail
      go_ret
      exact ⟨_, rfl, by rw [← HE.out]; exact owns_wider ho hbU.size, hbU.trans (hb4.mono hbU.size)⟩
end Go.Proofs.Ytlinlmmcgifloaa
