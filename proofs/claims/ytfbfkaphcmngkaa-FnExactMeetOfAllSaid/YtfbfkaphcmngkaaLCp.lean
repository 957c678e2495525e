/-
  CONTRACT of the reference's l3Copy. (Own work.)
-/
import Derived.Test.YtfbfkaphcmngkaaCh3L
import Derived.Test.YtfbfkaphcmngkaaSgL
namespace Go.Proofs.Ytfbfkaphcmngkaa
open Go Go.RowKit

set_option maxRecDepth 100000 in
set_option maxHeartbeats 800000 in
theorem l3Copy_any (L : List Int) (a : Option Addr) (c : Nat) (w : World) (hs : SlW w a c (L.map (Value.int .i64))) (hl : L.length ≤ 1048576) :
    Calls Try.prog 15 #[.agg #[.slice a L.length c]] w fun e w' => ∃ v, e = .returned (.agg #[v]) ∧ w'.ownsRow w.heap.size 3 1 v L.length (L.map (Value.int .i64)) ∧ Below w.heap.size w w' := by
  obtain ⟨i0, hi, hz0, hz1, hz2⟩ := info_parts infoIntL
  obtain ⟨W, hW⟩ : ∃ W, W = ((w.alloc (.cells #[.slice a L.length c] 26)).alloc (.cells #[.slice none 0 0] 26)).alloc (.cells #[] 3) := ⟨_, rfl⟩
  have hbW : Below w.heap.size w W := by rw [hW]; exact (((Below.refl _ _).alloc (Nat.le_refl _) _).alloc (by simp) _).alloc (by simp; omega) _
  have hzW : w.heap.size + 2 < W.heap.size := by rw [hW]; simp
  have hR : Arr W (w.heap.size + 1) 26 [.slice none 0 0] := by
    rw [hW]; have h := (Arr.new (w.alloc (.cells #[.slice a L.length c] 26)) 26 [.slice none 0 0]).alloc (.cells #[] 3)
    rw [show (w.alloc (.cells #[.slice a L.length c] 26)).heap.size = w.heap.size + 1 by simp] at h; exact h
  have hown : W.ownsRow (w.heap.size + 2) 3 1 (.slice (some ⟨w.heap.size + 1 + 1, 0, none⟩) 0 0) 0 [] := by
    rw [hW]
    have h := World.ownsRow_lit (base := w.heap.size + 2) (e := 3) (size := 1) ((w.alloc (.cells #[.slice a L.length c] 26)).alloc (.cells #[.slice none 0 0] 26)) #[] 0 (by simp) (by simp) rfl
    rw [show ((w.alloc (.cells #[.slice a L.length c] 26)).alloc (.cells #[.slice none 0 0] 26)).heap.size = w.heap.size + 1 + 1 by simp] at h
    exact h
  have hsW := hs.below hbW
  have HW := Lib.hid hW
  have hcs : w.heap.size + 1 < w.heap.size + 2 := by omega
  have hend : ∀ (v : Value) (w2 : World), w2.ownsRow (w.heap.size + 2) 3 1 v L.length (L.map (Value.int .i64)) → Below w.heap.size w w2 → w2.cell? ⟨w.heap.size + 1, 0, none⟩ = some (.slice none 0 0) →
      ∃ u, Ending.returned (.agg #[v]) = .returned (.agg #[u]) ∧ (w2.setCell ⟨w.heap.size + 1, 0, none⟩ v).ownsRow w.heap.size 3 1 u L.length (L.map (Value.int .i64)) ∧ Below w.heap.size w (w2.setCell ⟨w.heap.size + 1, 0, none⟩ v) := fun v w2 ho hb _ =>
    ⟨v, rfl, ownsBase (row_kept ho fun j hj => by
      have := (ho.lt j hj).1
      exact heap_setCell_other w2 ⟨w.heap.size + 1, 0, none⟩ j v (by show j ≠ w.heap.size + 1; omega)) (by omega), hb.setCell (by simp) _⟩
  have HE := Lib.hid hend
  clear hW hs hend
  rcases a with _ | ⟨b, off, sp⟩
  · obtain rfl : L = [] := by
      rcases hsW.sl with h | ⟨b, off, h, -⟩
      · simpa using h
      · cases h
    obtain rfl : c = 0 := hsW.nil0 rfl
    have hW := HW.out
    simp only [List.length_nil] at hW
    have HW2 := Lib.hid hW
    clear hsW hW HW
    rw [List.length_nil]
    go_enter Try.func15, Try.ntmps15
    have hcr : W.cell? ⟨w.heap.size + 1, 0, none⟩ = some (.slice none 0 0) := hR.cell 0
    have hfr := hR.frozen 0
    go_wp2_with (at_builtin; rw [← HW2.out]; refine wpList_append_own_none rfl _ _ 24 rfl (w.heap.size + 2) 3 i0 1 Try.underlying24 hi _ 0 [] rfl hown rfl ?_)
    have hcf := World.cell?_setCell_same W ⟨w.heap.size + 1, 0, none⟩ (.slice (some ⟨w.heap.size + 1 + 1, 0, none⟩) 0 0) hcr
    have HF := Lib.hid (HE.out _ W hown hbW hcr)
    refine bodyPost_ret (v := .agg #[.slice (some ⟨w.heap.size + 1 + 1, 0, none⟩) 0 0]) ?_ rfl HF.out
    simp [results, Try.results15, go_sem, hcf]
  · have hcell : ∀ j u, (L.map (Value.int .i64))[j]? = some u → W.cell? ((⟨b, off, sp⟩ : Addr).add j) = some u := by
      rcases hsW.sl with h | ⟨b', off', ha, hlt, hc⟩
      · intro j u hj; rw [h] at hj; simp at hj
      · injection ha with ha
        injection ha with h1 h2 h3
        subst h1 h2 h3
        exact fun j u h => by rw [Addr.add_mid]; exact hc j u h
    go_enter Try.func15, Try.ntmps15
    have hne : ∀ j, (Value.slice (some ⟨w.heap.size + 1 + 1, 0, none⟩) 0 0).ownBlock = some j → j ≠ w.heap.size + 1 := fun j hj => by have : w.heap.size + 1 + 1 = j := Option.some.inj hj; omega
    go_wp2_with (at_builtin; rw [← HW.out]; refine wpList_append_own _ rfl _ _ 24 rfl (w.heap.size + 2) 3 i0 (Value.int .i64 0) 1 8 Try.underlying24 hi hz0 hz1 hz2 rfl (by decide) _ _ _ rfl hown ⟨b, off, sp⟩ L.length c (L.map (Value.int .i64)) rfl (by simp) hcell (by simp [Value.oneCell']) (by unfold maxLen; omega) (by omega) (by omega) ?_; intro v2 w2 hown2 hg2 _
                 have hR2 := Arr.grownRow hR hg2 hne
                 have hcr : w2.cell? ⟨w.heap.size + 1, 0, none⟩ = some (.slice none 0 0) := hR2.cell 0
                 have hfr := hR2.frozen 0
                 have hb2 := hbW.grown hg2 hbW.size (fun j hj => by have : w.heap.size + 1 + 1 = j := Option.some.inj hj; omega)
                 have ho2 : w2.ownsRow (w.heap.size + 2) 3 1 v2 L.length (L.map (Value.int .i64)) := (by simpa using hown2)
                 have HF := Lib.hid (HE.out v2 w2 ho2 hb2 hcr)
                 have hcf := World.cell?_setCell_same w2 ⟨w.heap.size + 1, 0, none⟩ v2 hcr
                 obtain ⟨a2, c2, rfl, -⟩ := row_open ho2
                 clear hown2 ho2 hg2 hR2 hb2)
    refine bodyPost_ret (v := .agg #[.slice a2 L.length c2]) ?_ rfl HF.out
    simp [results, Try.results15, go_sem, hcf]
end Go.Proofs.Ytfbfkaphcmngkaa
