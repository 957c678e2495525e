/-
  CONTRACTS of the program's chapter 9, first part: kindOf, IsSymmetric, IsPseudoSymmetric, IsIrreducible, hasSums. (Own work.)
-/
import Derived.Test.YtekeaigdphicaaaL28
import Derived.Test.YtekeaigdphicaaaCh4I
import Derived.Test.YtekeaigdphicaaaHta
namespace Go.Proofs.Ytekeaigdphicaaa
open Go Go.RowKit
attribute [local go_sem] Oper.semAt_some

/-- The kind of symmetry: 0 for what is no semigroup, 1 neither, 2 symmetric, 3 pseudo-symmetric. -/
noncomputable def kindN (G : List Int) : Int := if isSgB G then (if symB G then 2 else if psymB G then 3 else 1) else 0
theorem kindN_no {G : List Int} (h : isSgB G = false) : kindN G = 0 := by unfold kindN; rw [h]; rfl
theorem sym_psym {G : List Int} (h : symB G = true) : psymB G = false := by
  cases hs : isSgB G
  · rw [symB_no hs] at h; cases h
  · cases hp : psymB G
    · rfl
    · have h1 := (sym_genus hs).1 h
      have h2 := ((psym_genus hs).1 hp).2
      omega
theorem kind_spec (G : List Int) : (kindN G = 0 ∧ symB G = false ∧ psymB G = false) ∨ (kindN G = 1 ∧ symB G = false ∧ psymB G = false) ∨ (kindN G = 2 ∧ symB G = true ∧ psymB G = false) ∨ (kindN G = 3 ∧ symB G = false ∧ psymB G = true) := by
  cases hs : isSgB G
  · exact .inl ⟨kindN_no hs, symB_no hs, psymB_no hs⟩
  · right
    unfold kindN
    rw [hs, if_pos rfl]
    cases h : symB G
    · cases hp : psymB G
      · exact .inl ⟨rfl, rfl, rfl⟩
      · exact .inr (.inr ⟨rfl, rfl, rfl⟩)
    · exact .inr (.inl ⟨rfl, rfl, sym_psym h⟩)
theorem mir_fail {G : List Int} (mid : Bool) {x : Nat} (hx : 2 * x + 1 < condNat G) (h : sumB G x = sumB G (condNat G - 1 - x)) : mirB G mid = false :=
  mirB_no (x := x) (by omega) (by unfold mirAt; rw [h, decide_eq_false (by omega)]; simp)
theorem mir_half {G : List Int} (mid : Bool) (h : ∀ x, 2 * x + 1 < condNat G → sumB G x ≠ sumB G (condNat G - 1 - x)) (hm : mid = true ∨ condNat G % 2 = 0) : mirB G mid = true :=
  mirB_yes fun x hx => by
    unfold mirAt
    rcases Nat.lt_trichotomy (2 * x + 1) (condNat G) with h1 | h1 | h1
    · have := h x h1
      rw [Bool.or_eq_true]; right; simpa using this
    · rcases hm with rfl | hm
      · rw [decide_eq_true h1]; rfl
      · omega
    · have := h (condNat G - 1 - x) (by omega)
      rw [show condNat G - 1 - (condNat G - 1 - x) = x by omega] at this
      rw [Bool.or_eq_true]; right; simpa using this.symm
theorem cond_one (G : List Int) : condNat G ≠ 1 := fun h => by
  have h0 : sumB G (condNat G - 1) = false := end_gap (by omega)
  rw [h] at h0
  have : sumB G 0 = true := sumB_iff.2 .zero
  rw [this] at h0; cases h0
theorem kindN_red {G : List Int} {x : Nat} (hs : isSgB G = true) (hx : 2 * x + 1 < condNat G) (h : sumB G x = sumB G (condNat G - 1 - x)) : kindN G = 1 := by
  unfold kindN symB psymB
  rw [hs, mir_fail false hx h, mir_fail true hx h]
  simp
theorem kindN_fine {G : List Int} (hs : isSgB G = true) (h : ∀ x, 2 * x + 1 < condNat G → sumB G x ≠ sumB G (condNat G - 1 - x)) : kindN G = if condNat G % 2 = 1 then 3 else 2 := by
  have hf := frob_cond hs
  have h1 := cond_one G
  by_cases ho : condNat G % 2 = 1
  · rw [if_pos ho]
    have hsy : symB G = false := by
      unfold symB
      rw [hs, Bool.true_and]
      refine mirB_no (x := (condNat G - 1) / 2) (by omega) ?_
      unfold mirAt
      rw [show condNat G - 1 - (condNat G - 1) / 2 = (condNat G - 1) / 2 by omega]
      simp
    have hps : psymB G = true := by
      unfold psymB
      rw [hs, mir_half true h (.inl rfl), decide_eq_true (show 0 < frobN G by omega), decide_eq_true (show frobN G % 2 = 0 by omega)]
      rfl
    unfold kindN
    rw [hs, hsy, hps]; rfl
  · rw [if_neg ho]
    have hsy : symB G = true := by
      unfold symB
      rw [hs, mir_half false h (.inr (by omega))]; rfl
    unfold kindN
    rw [hs, hsy]; rfl





set_option maxRecDepth 100000 in
set_option maxHeartbeats 1600000 in
theorem impl_hasSums (G : List Int) (hs : isSgB G = true) (n : Nat) (hn : n < 200) (a : Option Addr) (cap : Nat) (w : World) (hr : SlV w a (G.map (Value.int .i64))) :
    Calls Try.prog 78 #[.agg (tabB (elF G) 260).toArray, .int .i64 (n : Int), .slice a G.length cap] w fun e w' => e = .returned (.bool (G.all fun g => sumB G (n + g.toNat))) ∧ Below w.heap.size w w' := by
  have HGG := Lib.hid (isSgB_iff.1 hs).bounds
  have hlen := (isSgB_iff.1 hs).len
  have ch : ∀ (x : Int) W, 1 ≤ x → x ≤ 60 → Calls Try.prog 79 #[.agg (tabB (elF G) 260).toArray, .int .i64 ((n : Int) + x)] W fun e w' => e = .returned (.bool (sumB G (n + x.toNat))) ∧ Below W.heap.size W w' := fun x W h1 h2 =>
    impl_has (elF G) ((n : Int) + x) _ W (by
      rw [elF_at hs]
      by_cases h : 200 ≤ (n : Int) + x
      · rw [if_pos h]; exact sg_from hs _ (by have := condNat_le G; omega)
      · rw [if_neg h, if_pos (by omega), show ((n : Int) + x).toNat = n + x.toNat by omega])
  have hA := Arr.new w 61 (tabB (elF G) 260)
  have hB := box_below w (.cells (tabB (elF G) 260).toArray 61)
  generalize hW : w.alloc (.cells (tabB (elF G) 260).toArray 61) = W1 at hA hB
  have hr1 := hr.below hB
  have HQ : Hid (∀ k (hk : k < G.length), (G.take (k + 1)).all (fun g => sumB G (n + g.toNat)) = ((G.take k).all (fun g => sumB G (n + g.toNat)) && sumB G (n + G[k].toNat))) := Lib.hid fun k hk => all_take (fun g => sumB G (n + g.toNat)) hk
  have HNO : Hid (∀ k (hk : k < G.length), sumB G (n + G[k].toNat) = false → (G.all fun g => sumB G (n + g.toNat)) = false) := Lib.hid fun k hk h => List.all_eq_false.2 ⟨G[k], List.getElem_mem hk, by simpa using h⟩
  clear hr hs
  go_enter Try.func78, Try.ntmps78
  go_wp2_with (first | (refine wpList_box_arr 61 (.tmp 0) (tabB (elF G) 260) rfl rfl rfl ?_; rw [hW]))
  go_loopw [11] (fun i wr => ∃ k : Nat, k ≤ G.length ∧ i = .int .i64 (k : Int) ∧ Hid ((G.take k).all (fun g => sumB G (n + g.toNat)) = true) ∧ Arr wr w.heap.size 61 (tabB (elF G) 260) ∧ Below w.heap.size w wr ∧ Below W1.heap.size W1 wr) (fun i _ => G.length - (intOf i).toNat)
  case atStart => exact ⟨0, Nat.zero_le _, rfl, Lib.hid (by simp), hA, hB, Below.refl _ _⟩
  case round =>
    clear hA hB
    obtain ⟨k, hk, rfl, HA, hA, hB, hbel⟩ := hrel
    by_cases hlt : k < G.length
    · have hlti : (k : Int) < (G.length : Int) := by omega
      obtain ⟨b, off, rfl, hbs, hc⟩ := (hr1.below hbel).open (by intro h; rw [List.map_eq_nil_iff] at h; subst h; simp at hlt)
      have hcell : wr.cell? ⟨b, off + k, none⟩ = some (.int .i64 G[k]) := hc k _ (by simp [hlt])
      obtain ⟨hx0, hx1⟩ := HGG.out G[k] (List.getElem_mem hlt)
      have c := ch G[k] wr hx0 hx1
      have HQk := HQ.out k hlt
      rw [HA.out, Bool.true_and] at HQk
      have HQ2 := Lib.hid HQk
      have HN := Lib.hid (HNO.out k hlt)
      clear hc ch HQk
      generalize hX : G[k] = x at *
      clear hX
      have hwx : IntKind.i64.wrap ((n : Int) + x) = (n : Int) + x := IntWalk.i64_in _ (by omega)
      generalize sumB G (n + x.toNat) = q at *
      go_wp2_with (first | (refine wpList_load_arr 61 (.tmp 3) w.heap.size (tabB (elF G) 260) (.array 260 4) rfl rfl rfl hA undT rfl (sizeTl _) ?_))
      refine c.mono ?_
      rintro e w2 ⟨rfl, hb2⟩
      have hA2 := hA.below hb2
      have hB2 := hB.trans (hb2.mono hB.size)
      have hbel2 := hbel.trans (hb2.mono hbel.size)
      clear c hA hB hbel hb2
      cases q
      · have HR := Lib.hid (HN.out rfl)
        clear HN HQ2 HQ HNO
        go_wp2_with fail
        go_ret
        exact ⟨by rw [HR.out]; rfl, hB2⟩
      · clear HN
        go_wp2_with fail
        go_roundw
        case rel => exact ⟨k + 1, by omega, by go_num, HQ2, hA2, hB2, hbel2⟩
        case measure => simp [intOf]; omega
    · have hke : k = G.length := by omega
      rw [hke, List.take_of_length_le (Nat.le_refl _)] at HA
      clear hke HQ HNO
      go_wp2_with fail
      go_ret
      exact ⟨by rw [HA.out]; rfl, hB⟩

end Go.Proofs.Ytekeaigdphicaaa
