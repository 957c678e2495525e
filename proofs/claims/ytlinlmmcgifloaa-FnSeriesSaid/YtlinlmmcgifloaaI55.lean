/-
  CONTRACTS of the program's chapter 15: factorsOf. (Own work: mkI55.py.)
-/
import Derived.Test.YtlinlmmcgifloaaI53
import Derived.Test.YtlinlmmcgifloaaL56
namespace Go.Proofs.Ytlinlmmcgifloaa
open Go Go.RowKit
attribute [local go_sem] Oper.semAt_some

def FacRow (G : List Int) (base : Nat) (vs : List Value) (w : World) (i : Nat) (h : i < G.length) : Prop :=
  ∃ p c, base < p ∧ p < w.heap.size ∧ vs[i]? = some (.slice (some ⟨p, 0, none⟩) (facF G[i]).length c) ∧ ∀ j u, ((facF G[i]).map (Value.int .i64))[j]? = some u → w.cell? ⟨p, 0 + j, none⟩ = some u
/-- The first k factors lie in the memory, the rest is nil. -/
structure FacAt (G : List Int) (base k : Nat) (vs : List Value) (w : World) : Prop where
  len : vs.length = G.length
  own : w.ownsRow base 24 1 (.slice (some ⟨base, 0, none⟩) G.length G.length) G.length vs
  rows : ∀ i (h : i < G.length), i < k → FacRow G base vs w i h
theorem FacRow.keep {G : List Int} {base : Nat} {vs : List Value} {w w' : World} {i : Nat} {h : i < G.length} (f : FacRow G base vs w i h) (hs : w.heap.size ≤ w'.heap.size) (hb : ∀ j, j < w.heap.size → j ≠ base → w'.heap[j]? = w.heap[j]?) : FacRow G base vs w' i h := by
  obtain ⟨p, c, h1, h2, h3, h4⟩ := f
  exact ⟨p, c, h1, Nat.lt_of_lt_of_le h2 hs, h3, fun j u hu => (World.cell?_of_block (a := ⟨p, 0 + j, none⟩) (hb p h2 (by omega))).trans (h4 j u hu)⟩
theorem FacRow.next {G : List Int} {base : Nat} {vs : List Value} {w : World} {i k : Nat} {h : i < G.length} (f : FacRow G base vs w i h) (hk : i < k) (u : Value) : FacRow G base (vs.set k u) w i h := by
  obtain ⟨p, c, h1, h2, h3, h4⟩ := f
  exact ⟨p, c, h1, h2, by rw [List.getElem?_set_ne (by omega)]; exact h3, h4⟩
theorem FacAt.below {G : List Int} {base k : Nat} {vs : List Value} {w w' : World} (f : FacAt G base k vs w) (hb : Below w.heap.size w w') : FacAt G base k vs w' :=
  ⟨f.len, owns_below f.own hb, fun i h hk => by
    obtain ⟨p, c, h1, h2, h3, h4⟩ := f.rows i h hk
    exact ⟨p, c, h1, Nat.lt_of_lt_of_le h2 hb.size, h3, fun j u hu => (hb.cell (p := ⟨p, 0 + j, none⟩) h2).trans (h4 j u hu)⟩⟩
theorem facF_tab (g : Int) : (facF g).map (Value.int .i64) = tabJ (fun j => if j = 0 then 1 else if j = g.toNat then -1 else 0) (g.toNat + 1) := by
  unfold facF tabJ; rw [List.map_map]; rfl
theorem facF_stored {n : Nat} (hn : 1 ≤ n) : ((tabJ (fun _ => 0) (n + 1)).set 0 (.int .i64 1)).set n (.int .i64 (-1)) = tabJ (fun j => if j = 0 then 1 else if j = n then -1 else 0) (n + 1) := by
  rw [tabJ_set (g := fun j => if j = 0 then 1 else 0) 1 (by simp) (fun i hi => by simp [hi])]
  exact tabJ_set _ (by rw [if_neg (by omega), if_pos rfl]) (fun i hi => by simp [hi])
/-- One round: the new row is made, stored, filled. -/
theorem FacAt.step {G : List Int} {base k : Nat} {vs : List Value} {w w1 w3 : World} (f : FacAt G base k vs w) (hk : k < G.length) {n : Nat} (hn : 1 ≤ n) (hG : G[k] = (n : Int)) (hb : base < w.heap.size)
    (hg1 : w.grownBy w1 none) (hr1 : w1.ownsRow w.heap.size 3 1 (.slice (some ⟨w.heap.size, 0, none⟩) (n + 1) (n + 1)) (n + 1) (tabJ (fun _ => 0) (n + 1)))
    (h3 : w3 = (((w1.setCell ⟨base, k, none⟩ (.slice (some ⟨w.heap.size, 0, none⟩) (n + 1) (n + 1))).drew.setCell ⟨w.heap.size, 0, none⟩ (.int .i64 1)).setCell ⟨w.heap.size, n, none⟩ (.int .i64 (-1)))) :
    FacAt G base (k + 1) (vs.set k (.slice (some ⟨w.heap.size, 0, none⟩) (n + 1) (n + 1))) w3 := by
  have hz1 := (hr1.lt w.heap.size rfl).2
  have hn0 : ∀ {x y : Nat}, x ≠ y → (Value.slice (some ⟨x, 0, none⟩) (n + 1) (n + 1)).ownBlock = none ∨ (Value.slice (some ⟨x, 0, none⟩) (n + 1) (n + 1)).ownBlock ≠ some y := fun h => .inr fun e => h (Option.some.inj e)
  have hn1 : ∀ {x y : Nat}, x ≠ y → (Value.slice (some ⟨x, 0, none⟩) G.length G.length).ownBlock = none ∨ (Value.slice (some ⟨x, 0, none⟩) G.length G.length).ownBlock ≠ some y := fun h => .inr fun e => h (Option.some.inj e)
  have o1 := f.own.kept hg1 (.inr (by simp [Value.ownBlock]))
  have o2 := (o1.stored k (.slice (some ⟨w.heap.size, 0, none⟩) (n + 1) (n + 1))).1
  have g2 := grownBy_setCell w1 base k (.slice (some ⟨w.heap.size, 0, none⟩) (n + 1) (n + 1))
  have r2 := hr1.kept g2 (hn0 (by omega))
  generalize hwa : w1.setCell ⟨base, k, none⟩ (.slice (some ⟨w.heap.size, 0, none⟩) (n + 1) (n + 1)) = wa at *
  have r2d : wa.drew.ownsRow w.heap.size 3 1 (.slice (some ⟨w.heap.size, 0, none⟩) (n + 1) (n + 1)) (n + 1) (tabJ (fun _ => 0) (n + 1)) := r2
  have o2d : wa.drew.ownsRow base 24 1 (.slice (some ⟨base, 0, none⟩) G.length G.length) G.length (vs.set k (.slice (some ⟨w.heap.size, 0, none⟩) (n + 1) (n + 1))) := o2
  have hsd : wa.drew.heap = wa.heap := rfl
  have r3 := (r2d.stored 0 (.int .i64 1)).1
  have g3 := grownBy_setCell wa.drew w.heap.size 0 (.int .i64 1)
  have o3 := o2d.kept g3 (hn1 (by omega))
  generalize hwb : wa.drew.setCell ⟨w.heap.size, 0, none⟩ (.int .i64 1) = wb at *
  have r4 := (r3.stored n (.int .i64 (-1))).1
  rw [facF_stored hn] at r4
  have g4 := grownBy_setCell wb w.heap.size n (.int .i64 (-1))
  have o4 := o3.kept g4 (hn1 (by omega))
  rw [← h3] at r4 o4 g4
  have s1 := hg1.size
  have s2 := g2.size
  have s3 := g3.size
  have s4 := g4.size
  rw [hsd] at s3
  have hb3 : ∀ j, j < w.heap.size → j ≠ base → w3.heap[j]? = w.heap[j]? := fun j hj hne => by
    have e4 := g4.block j (by omega) (fun e => by have := Option.some.inj e; omega)
    have e3 := g3.block j (by rw [hsd]; omega) (fun e => by have := Option.some.inj e; omega)
    have e2 := g2.block j (by omega) (fun e => hne (Option.some.inj e))
    have e1 := hg1.block j hj (by simp)
    rw [e4, e3, hsd, e2, e1]
  refine ⟨by rw [List.length_set]; exact f.len, o4, fun i hi hik => ?_⟩
  by_cases e : i = k
  · subst e
    refine ⟨w.heap.size, n + 1, hb, (r4.lt w.heap.size rfl).2, ?_, ?_⟩
    · rw [List.getElem?_set_self (by rw [f.len]; exact hi), facF_len, hG]; rfl
    · rw [hG, facF_tab]
      exact row_cells r4
  · exact ((f.rows i hi (by omega)).next (k := k) (by omega) _).keep (by omega) hb3
theorem FacAt.sl2 {G : List Int} {base : Nat} {vs : List Value} {w : World} (f : FacAt G base G.length vs w) : Sl2 w (some ⟨base, 0, none⟩) (G.map facF) := by
  refine ⟨vs, .inr ⟨base, 0, rfl, (f.own.lt base rfl).2, row_cells f.own⟩, by rw [f.len, List.length_map], fun i h h' => ?_⟩
  have hi : i < G.length := by rw [← f.len]; exact h
  obtain ⟨p, c, h1, h2, h3, h4⟩ := f.rows i hi hi
  rw [List.getElem?_eq_getElem h] at h3
  refine ⟨some ⟨p, 0, none⟩, c, ?_, .inr ⟨p, 0, rfl, h2, ?_⟩⟩
  · rw [List.getElem_map]; exact Option.some.inj h3
  · rw [List.getElem_map]; exact h4
def FacPost (G : List Int) (w : World) (e : Ending) (w' : World) : Prop :=
  ∃ vs, e = .returned (.slice (some ⟨w.heap.size, 0, none⟩) G.length G.length) ∧ FacAt G w.heap.size G.length vs w' ∧ Below w.heap.size w w'

theorem infoSlI : (Try.prog.info? 24).map (fun i => (i.zero, i.size, i.bytes)) = some (some (Value.slice none 0 0), 1, 24) := by kernel_rfl
theorem fac_zero {w w1 : World} (G : List Int) (hown : w1.ownsRow w.heap.size 24 1 (.slice (some ⟨w.heap.size, 0, none⟩) G.length G.length) G.length (madeCells (Value.slice none 0 0).cells (G.length * 1)).toList) (hgrow : w.grownBy w1 none) :
    Hid (FacAt G w.heap.size 0 (List.replicate G.length (Value.slice none 0 0)) w1) ∧ Hid (Below w.heap.size w w1) := by
  refine ⟨Lib.hid ⟨by simp, ?_, fun i _ h => by omega⟩, Lib.hid ((Below.refl _ w).grown hgrow (Nat.le_refl _) (fun k h => by cases h))⟩
  have e : (madeCells (Value.slice none 0 0).cells (G.length * 1)).toList = List.replicate G.length (Value.slice none 0 0) := by rw [Nat.mul_one]; exact toList_madeCells_one _ _
  rw [← e]; exact hown
theorem stored_get {f : Nat → Int} (n : Nat) : ((tabJ f (n + 1)).set 0 (.int .i64 1))[n]? = some (.int .i64 (if n = 0 then 1 else f n)) := by
  by_cases h : n = 0
  · subst h; rw [List.getElem?_set_self (by rw [tabJ_len]; omega)]; rfl
  · rw [List.getElem?_set_ne (by omega), tabJ_get _ (by omega), if_neg h]

set_option maxRecDepth 100000 in
set_option maxHeartbeats 1600000 in
theorem impl_factorsOf (G : List Int) (hG : ∀ g ∈ G, 1 ≤ g ∧ g ≤ 60) (h0 : 0 < G.length) (hl : G.length ≤ 12) (a : Option Addr) (cap : Nat) (w : World) (hr : SlV w a (G.map (Value.int .i64))) :
    Calls Try.prog 94 #[.slice a G.length cap] w (FacPost G w) := by
  obtain ⟨i0, hi, hz0, hz1, hz2⟩ := info_parts infoIntL
  obtain ⟨j0, ji, jz0, jz1, jz2⟩ := info_parts infoSlI
  have HG := Lib.hid hG
  obtain ⟨ba, oa, rfl, hbs, hc⟩ := hr.open (by intro h; rw [List.map_eq_nil_iff] at h; subst h; simp at h0)
  have HC : Hid (∀ w', Below w.heap.size w w' → ∀ i (h : i < G.length), w'.cell? ⟨ba, oa + i, none⟩ = some (.int .i64 G[i])) := Lib.hid fun w' h i hi' => (h.cell (p := ⟨ba, oa + i, none⟩) hbs).trans (hc i _ (by simp [hi']))
  clear hr hbs hc hG
  go_enter Try.func94, Try.ntmps94
  go_wp2_with (at_make; refine wpList_make_full _ rfl _ _ 64 rfl w.heap.size 24 j0 (Value.slice none 0 0) 1 Try.underlying64 ji jz0 jz1 .i64 .i64 _ _ G.length rfl rfl (by first | rfl | (simp; done) | omega) (by first | rfl | (simp; done) | omega) (by rw [jz2]; omega) (by unfold maxLen; omega) (Nat.le_refl _) ?_; intro w0 hown hgrow; obtain ⟨HF0, HB0⟩ := fac_zero G hown hgrow; clear hown hgrow)
  go_loopw [11] (fun i wr => ∃ (k : Nat) (vs : List Value), k ≤ G.length ∧ i = .int .i64 (k : Int) ∧ FacAt G w.heap.size k vs wr ∧ Below w.heap.size w wr) (fun i _ => G.length - (intOf i).toNat)
  case atStart => exact ⟨0, _, Nat.zero_le _, rfl, HF0.out, HB0.out⟩
  case round =>
    clear HF0 HB0
    obtain ⟨k, vs, hk, rfl, hfac, hbel⟩ := hrel
    have hbz := (hfac.own.lt w.heap.size rfl).2
    have HFac := Lib.hid hfac
    clear hfac
    by_cases hltG : k < G.length
    · have hlti : (k : Int) < (G.length : Int) := by omega
      have hk0 : (0 : Int) ≤ (k : Int) := by omega
      have hcell := HC.out _ hbel k hltG
      obtain ⟨hx0, hx1⟩ := HG.out G[k] (List.getElem_mem hltG)
      obtain ⟨n, hn⟩ := Int.eq_ofNat_of_zero_le (show 0 ≤ G[k] by omega)
      have HGk := Lib.hid hn
      rw [hn] at hcell hx0 hx1
      have hn1 : 1 ≤ n := by omega
      have hn60 : n ≤ 60 := by omega
      have hnn : (n : Int) < (n : Int) + 1 := by omega
      have hnp : (0 : Int) < (n : Int) + 1 := by omega
      have hnz : (0 : Int) ≤ (n : Int) := by omega
      clear hn
      go_wp2_with (at_make; refine wpList_make_full _ rfl _ _ 24 rfl wr.heap.size 3 i0 (Value.int .i64 0) 1 Try.underlying24 hi hz0 hz1 .i64 .i64 _ _ (n + 1) rfl rfl (by first | rfl | (simp; done) | omega) (by first | rfl | (simp; done) | omega) (by rw [hz2]; omega) (by unfold maxLen; omega) (Nat.le_refl _) ?_; intro w1 hown hgrow; have hrow0 := (tab0J (n + 1) wr.heap.size (Nat.le_refl _) hown hgrow).1.out; have HF : Hid (∀ w3, w3 = (((w1.setCell ⟨w.heap.size, k, none⟩ (.slice (some ⟨wr.heap.size, 0, none⟩) (n + 1) (n + 1))).drew.setCell ⟨wr.heap.size, 0, none⟩ (.int .i64 1)).setCell ⟨wr.heap.size, n, none⟩ (.int .i64 (-1))) → FacAt G w.heap.size (k + 1) (vs.set k (.slice (some ⟨wr.heap.size, 0, none⟩) (n + 1) (n + 1))) w3) := Lib.hid fun w3 h3 => HFac.out.step hltG hn1 HGk.out hbz hgrow hrow0 h3; have HB : Hid (∀ w3, w3 = (((w1.setCell ⟨w.heap.size, k, none⟩ (.slice (some ⟨wr.heap.size, 0, none⟩) (n + 1) (n + 1))).drew.setCell ⟨wr.heap.size, 0, none⟩ (.int .i64 1)).setCell ⟨wr.heap.size, n, none⟩ (.int .i64 (-1))) → Below w.heap.size w w3) := Lib.hid (fun w3 h3 => by rw [h3]; exact (((hbel.grown hgrow (by omega) (fun j hj => by cases hj)).setCell (p := ⟨w.heap.size, k, none⟩) (Nat.le_refl _) _).drew.setCell (p := ⟨wr.heap.size, 0, none⟩) (by show w.heap.size ≤ wr.heap.size; omega) _).setCell (p := ⟨wr.heap.size, n, none⟩) (by show w.heap.size ≤ wr.heap.size; omega) _); have hO := HFac.out.own.kept hgrow (.inr (by simp [Value.ownBlock])); have hck := (hO.cellAt k (by omega)).trans (List.getElem?_eq_getElem (show k < vs.length by have := HFac.out.len; omega)); have hfk := hO.frozenAt k; have hst := (hO.stored k (.slice (some ⟨wr.heap.size, 0, none⟩) (n + 1) (n + 1))).1.cellAt k (by omega); rw [List.getElem?_set_self (show k < vs.length by have := HFac.out.len; omega)] at hst; have hrow := hrow0.kept (grownBy_setCell w1 w.heap.size k (.slice (some ⟨wr.heap.size, 0, none⟩) (n + 1) (n + 1))) (.inr fun e => by have h : wr.heap.size = w.heap.size := Option.some.inj e; omega); clear hown hgrow hrow0 hO)
      have hS0 : (w1.setCell ⟨w.heap.size, k, none⟩ (.slice (some ⟨wr.heap.size, 0, none⟩) (n + 1) (n + 1))).drew.cell? ⟨w.heap.size, k, none⟩ = some (.slice (some ⟨wr.heap.size, 0, none⟩) (n + 1) (n + 1)) := hst
      clear hst hck hfk hcell
      refine wp_region_held_drew (S := fun w' => w'.cell? ⟨w.heap.size, k, none⟩ = some (.slice (some ⟨wr.heap.size, 0, none⟩) (n + 1) (n + 1))) (by kernel_rfl) hS0 (fun hHeld => ?_)
      refine held_take 0 _ _ rfl (by kernel_rfl) (by kernel_rfl) (by kernel_rfl) (fun _ _ _ h => h) (by rfl) hHeld (fun w hSw => by (try dsimp only at hSw); go_simp; try with_reducible rfl) ?_
      (try simp only [Act.put, List.setIfInBounds_toArray, List.set_cons_zero, List.set_cons_succ, List.getElem_toArray, List.getElem_cons_zero])
      refine held_take 1 _ _ rfl (by kernel_rfl) (by kernel_rfl) (by kernel_rfl) (fun _ _ _ h => h) (by rfl) hHeld (fun w hSw => by (try dsimp only at hSw); go_simp; try with_reducible rfl) ?_
      (try simp only [Act.put, List.setIfInBounds_toArray, List.set_cons_zero, List.set_cons_succ, List.getElem_toArray, List.getElem_cons_succ, List.getElem_cons_zero])
      refine held_take 2 _ _ rfl (by kernel_rfl) (by kernel_rfl) (by kernel_rfl) (fun _ _ _ h => h) (by rfl) hHeld (fun w hSw => by (try dsimp only at hSw); go_simp; try with_reducible rfl) ?_
      (try simp only [Act.put, List.setIfInBounds_toArray, List.set_cons_zero, List.set_cons_succ, List.getElem_toArray, List.getElem_cons_succ, List.getElem_cons_zero])
      refine held_take 3 _ _ rfl (by kernel_rfl) (by kernel_rfl) (by kernel_rfl) (fun _ _ _ h => h) (by rfl) hHeld (fun w hSw => by (try dsimp only at hSw); go_simp; try with_reducible rfl) ?_
      (try simp only [Act.put, List.setIfInBounds_toArray, List.set_cons_zero, List.set_cons_succ, List.getElem_toArray, List.getElem_cons_succ, List.getElem_cons_zero])
      refine held_take 4 _ _ rfl (by kernel_rfl) (by kernel_rfl) (by kernel_rfl) (fun _ _ _ h => h) (by rfl) hHeld (fun w hSw => by (try dsimp only at hSw); go_simp; try with_reducible rfl) ?_
      (try simp only [Act.put, List.setIfInBounds_toArray, List.set_cons_zero, List.set_cons_succ, List.getElem_toArray, List.getElem_cons_succ, List.getElem_cons_zero])
      refine held_take 5 _ _ rfl (by kernel_rfl) (by kernel_rfl) (by kernel_rfl) (fun _ _ _ h => h) (by rfl) hHeld (fun w hSw => by (try dsimp only at hSw); go_simp; try with_reducible rfl) ?_
      (try simp only [Act.put, List.setIfInBounds_toArray, List.set_cons_zero, List.set_cons_succ, List.getElem_toArray, List.getElem_cons_succ, List.getElem_cons_zero])
      refine held_take 6 _ _ rfl (by kernel_rfl) (by kernel_rfl) (by kernel_rfl) (fun _ _ _ h => h) (by rfl) hHeld (fun w hSw => by (try dsimp only at hSw); go_simp; try with_reducible rfl) ?_
      (try simp only [Act.put, List.setIfInBounds_toArray, List.set_cons_zero, List.set_cons_succ, List.getElem_toArray, List.getElem_cons_succ, List.getElem_cons_zero])
      refine held_take 7 _ _ rfl (by kernel_rfl) (by kernel_rfl) (by kernel_rfl) (fun _ _ _ h => h) (by rfl) hHeld (fun w hSw => by (try dsimp only at hSw); go_simp; try with_reducible rfl) ?_
      (try simp only [Act.put, List.setIfInBounds_toArray, List.set_cons_zero, List.set_cons_succ, List.getElem_toArray, List.getElem_cons_succ, List.getElem_cons_zero])
      refine held_take 8 _ _ rfl (by kernel_rfl) (by kernel_rfl) (by kernel_rfl) (fun _ _ _ h => h) (by rfl) hHeld (fun w hSw => by (try dsimp only at hSw); go_simp; try with_reducible rfl) ?_
      (try simp only [Act.put, List.setIfInBounds_toArray, List.set_cons_zero, List.set_cons_succ, List.getElem_toArray, List.getElem_cons_succ, List.getElem_cons_zero])
      refine held_take 9 _ _ rfl (by kernel_rfl) (by kernel_rfl) (by kernel_rfl) (fun _ _ _ h => h) (by rfl) hHeld (fun w hSw => by (try dsimp only at hSw); go_simp; try with_reducible rfl) ?_
      (try simp only [Act.put, List.setIfInBounds_toArray, List.set_cons_zero, List.set_cons_succ, List.getElem_toArray, List.getElem_cons_succ, List.getElem_cons_zero])
      refine wpAnyH_ready (rs := [10]) (by kernel_rfl) (by simp) ?_
      refine AllReadyH.cons rfl (fun K hK => ?_) AllReadyH.nil
      rw [if_pos (by rfl)]
      have hc1 := hrow.cellAt 0 (by omega)
      rw [tabJ_get _ (by omega)] at hc1
      have hf1 := hrow.frozenAt 0
      replace hrow := (hrow.stored 0 (.int .i64 1)).1
      go_wp2_with fail
      clear hc1 hf1
      refine hK.out _ _ ((grownBy_setCell _ wr.heap.size 0 _).cell hHeld (fun e => by have h : w.heap.size = wr.heap.size := Option.some.inj e; omega)) (fun hHeld1 => ?_)
      clear hK K
      (try simp only [Act.put, List.setIfInBounds_toArray, List.set_cons_zero, List.set_cons_succ, List.getElem_toArray, List.getElem_cons_succ, List.getElem_cons_zero])
      refine held_take 11 _ _ rfl (by kernel_rfl) (by kernel_rfl) (by kernel_rfl) (fun _ _ _ h => h) (by rfl) hHeld1 (fun w hSw => by (try dsimp only at hSw); go_simp; try with_reducible rfl) ?_
      (try simp only [Act.put, List.setIfInBounds_toArray, List.set_cons_zero, List.set_cons_succ, List.getElem_toArray, List.getElem_cons_succ, List.getElem_cons_zero])
      refine wpAnyH_ready (rs := [12]) (by kernel_rfl) (by simp) ?_
      refine AllReadyH.cons rfl (fun K hK => ?_) AllReadyH.nil
      rw [if_pos (by rfl)]
      have hc2 : _ = some (Value.int .i64 _) := (hrow.cellAt n (by omega)).trans (stored_get n)
      have hf2 := hrow.frozenAt n
      go_wp2_with fail
      clear hc2 hf2
      refine hK.out _ _ ((grownBy_setCell _ wr.heap.size n _).cell hHeld1 (fun e => by have h : w.heap.size = wr.heap.size := Option.some.inj e; omega)) (fun hHeld2 => ?_)
      clear hK K
      (try simp only [Act.put, List.setIfInBounds_toArray, List.set_cons_zero, List.set_cons_succ, List.getElem_toArray, List.getElem_cons_succ, List.getElem_cons_zero])
      refine wpAnyH_done (by kernel_rfl) ?_ _
      clear hS0 hrow
      go_wp2_with fail
      go_roundw
      case rel => exact ⟨k + 1, _, by omega, by go_num, HF.out _ rfl, HB.out _ rfl⟩
      case measure => simp [intOf]; omega
    · obtain rfl : k = G.length := by omega
      have hlti : ¬ ((G.length : Nat) : Int) < (G.length : Int) := by omega
      go_wp2_with fail
      go_ret
      exact ⟨vs, rfl, HFac.out, hbel⟩
end Go.Proofs.Ytlinlmmcgifloaa
