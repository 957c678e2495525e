/-
  CONTRACTS of the reference's chapter 11: the search as a whole; Factorizations. (Own work.)
-/
import Derived.Test.YthalbmlgkkgheaaDoorL44
namespace Go.Proofs.YthalbmlgkkgheaaDoor
open Go Go.RowKit

theorem spec_l11Rec (G : List Int) (hs : isSgB G = true) : ∀ (k t : Nat) (D : List Int) (b off cap bd od cd : Nat) (w : World), D.length + (k + 1) = G.length → t ≤ 100 →
    b < w.heap.size → (∀ j u, (G.map (Value.int .i64))[j]? = some u → w.cell? ⟨b, off + j, none⟩ = some u) → bd < w.heap.size → (∀ j u, (D.map (Value.int .i64))[j]? = some u → w.cell? ⟨bd, od + j, none⟩ = some u) →
    Calls Tryd.prog 39 #[.slice (some ⟨b, off, none⟩) G.length cap, .int .i64 (t : Int), .slice (some ⟨bd, od, none⟩) D.length cd] w (SsPostA ((findF (G.drop D.length) t).map (D ++ ·)) w) := by
  have hS := isSgB_iff.1 hs
  have h12 := hS.len
  intro k
  induction k with
  | zero =>
    intro t D b off cap bd od cd w hl ht hbw hG hdw hD
    have hd : D.length < G.length := by omega
    have hbd := hS.bounds G[D.length] (List.getElem_mem hd)
    have hdrop : G.drop D.length = [((G[D.length].toNat : Nat) : Int)] := by
      rw [List.drop_eq_getElem_cons hd, List.drop_of_length_le (by omega), Int.toNat_of_nonneg (by omega)]
    rw [hdrop]
    refine spec_l11Leaf D b off cap G.length D.length G[D.length].toNat t bd od cd w (by omega) (by omega) h12 (by omega) (by omega) ht (Nat.le_refl _) (Nat.le_refl _) hbw ?_ hdw hD
    refine hG D.length _ ?_
    rw [List.getElem?_map, List.getElem?_eq_getElem hd, Int.toNat_of_nonneg (by omega)]; rfl
  | succ k ih =>
    intro t D b off cap bd od cd w hl ht hbw hG hdw hD
    have hd : D.length < G.length := by omega
    have hbd := hS.bounds G[D.length] (List.getElem_mem hd)
    obtain ⟨g2, r, hr⟩ : ∃ g2 r, G.drop (D.length + 1) = g2 :: r := by
      cases h : G.drop (D.length + 1) with
      | nil => have := congrArg List.length h; simp at this; omega
      | cons a r => exact ⟨a, r, rfl⟩
    have hE : (findF (G.drop D.length) t).map (D ++ ·) = (downL (t / G[D.length].toNat)).flatMap fun k => (findF (G.drop (D.length + 1)) (t - k * G[D.length].toNat)).map fun x => D ++ (k : Int) :: x := by
      rw [List.drop_eq_getElem_cons hd, hr, findF_cons, List.map_flatMap]
      refine congrArg (fun f => List.flatMap f _) (funext fun k => ?_)
      rw [List.map_map]; rfl
    have hB := findF_bound hs D.length t ht
    have hB2 := congrArg List.length hE
    rw [List.length_map] at hB2
    rw [hE]
    refine spec_l11Node D b off cap G.length D.length G[D.length].toNat t bd od cd (fun t' => findF (G.drop (D.length + 1)) t') w (by omega) h12 (by omega) (by omega) ht (Nat.le_refl _) (Nat.le_refl _) hbw ?_ hdw hD (by omega) ?_
    · refine hG D.length _ ?_
      rw [List.getElem?_map, List.getElem?_eq_getElem hd, Int.toNat_of_nonneg (by omega)]; rfl
    · intro t' D' g' o' c' w' ht' hl' hg' hc' hbel
      have h := ih t' D' b off cap g' o' c' w' (by omega) (by omega) (Nat.lt_of_lt_of_le hbw hbel.size) (fun j u hj => (hbel.cell (p := ⟨b, off + j, none⟩) hbw).trans (hG j u hj)) hg' hc'
      rw [hl'] at h
      exact h
theorem SsPostA.ss {LL : List (List Int)} {w : World} {e : Ending} {w' : World} (h : SsPostA LL w e w') : SsPost LL w e w' := by
  obtain ⟨ad, c, vs, rfl, hr, hb⟩ := h
  exact ⟨_, vs, rfl, hr, hb⟩
theorem factL_noL {G : List Int} {n : Int} (h : isSgB G = false ∨ inB n 0 100 = false) : factL G n = [] := by
  unfold factL
  rcases h with h | h <;> simp [h]
theorem factL_yesL {G : List Int} {n : Nat} (hs : isSgB G = true) (h : inB (n : Int) 0 100 = true) : factL G (n : Int) = (findF (G.drop ([] : List Int).length) n).map (([] : List Int) ++ ·) := by
  unfold factL; simp [hs, h]
theorem empty_ss {w w' : World} (hb : Below w.heap.size w w') : Rows2 (w'.alloc (.cells #[] 24)) w.heap.size (w'.alloc (.cells #[] 24)).heap.size (.slice (some ⟨w'.heap.size, 0, none⟩) 0 0) [] (([] : List (List Int)).map fun L => L.map (Value.int .i64)) :=
  rows2_empty (World.ownsRow_lit w' #[] 0 hb.size (by simp) rfl) (by simp)
set_option maxRecDepth 100000 in
set_option maxHeartbeats 1600000 in
theorem spec_Factorizations (G : List Int) (n : Int) (a : Option Addr) (cap : Nat) (w : World) (hr : SlV w a (G.map (Value.int .i64))) (hb : G.length ≤ 1048576) :
    Calls Tryd.prog 12 #[.agg #[.slice a G.length cap], .int .i64 n] w (SsPost (factL G n) w) := by
  obtain ⟨W, hW⟩ : ∃ W, W = w.alloc (.cells #[.slice a G.length cap] 26) := ⟨_, rfl⟩
  have hbW : Below w.heap.size w W := by rw [hW]; exact box_below _ _
  have hc0 : W.cell? ⟨w.heap.size, 0, none⟩ = some (.slice a G.length cap) := by rw [hW]; exact box_cell w _
  have hWs : w.heap.size < W.heap.size := by rw [hW]; simp
  have HW := Lib.hid hW
  clear hW
  have c1 := spec_IsSemigroup G a cap W (hr.below hbW) hb
  have ci := fun w => l1In_any n 0 100 w
  cases hs : isSgB G
  · have HR := Lib.hid (factL_noL (n := n) (.inl hs))
    rw [hs] at c1
    clear hs hr ci
    go_enter Tryd.func12, Tryd.ntmps12
    go_wp2_with fail
    rw [← HW.out]
    refine c1.mono ?_
    rintro e w1 ⟨rfl, hb1⟩
    have hb01 := hbW.trans (hb1.mono hbW.size)
    go_wp2_with fail
    go_ret
    exact ⟨_, [], rfl, by rw [HR.out]; exact empty_ss hb01, hb01.alloc hb01.size _⟩
  · rw [hs] at c1
    have HSG := Lib.hid hs
    clear hs
    cases hx : inB n 0 100
    · have HR := Lib.hid (factL_noL (G := G) (.inr hx))
      rw [hx] at ci
      clear hx hr
      go_enter Tryd.func12, Tryd.ntmps12
      go_wp2_with fail
      rw [← HW.out]
      refine c1.mono ?_
      rintro e w1 ⟨rfl, hb1⟩
      have hb01 := hbW.trans (hb1.mono hbW.size)
      go_wp2_with fail
      refine (ci _).mono ?_
      rintro e w2 ⟨rfl, rfl⟩
      go_wp2_with fail
      go_ret
      exact ⟨_, [], rfl, by rw [HR.out]; exact empty_ss hb01, hb01.alloc hb01.size _⟩
    · obtain ⟨hx0, hx1⟩ := inB_true hx
      rw [hx] at ci
      obtain ⟨m, rfl⟩ := Int.eq_ofNat_of_zero_le hx0
      have HR := Lib.hid (factL_yesL HSG.out hx)
      have hm : m ≤ 100 := by omega
      clear hx
      go_enter Tryd.func12, Tryd.ntmps12
      go_wp2_with fail
      rw [← HW.out]
      refine c1.mono ?_
      rintro e w1 ⟨rfl, hb1⟩
      have hb01 := hbW.trans (hb1.mono hbW.size)
      have hk1 : w1.cell? ⟨w.heap.size, 0, none⟩ = some (.slice a G.length cap) := (hb1.cell (p := ⟨w.heap.size, 0, none⟩) hWs).trans hc0
      have h0 : 0 < G.length := (okG_iff.1 (isSgB_iff.1 HSG.out).ok).2.1
      obtain ⟨b, off, rfl, hbs, hc⟩ := hr.open (by intro h; rw [List.map_eq_nil_iff] at h; subst h; simp at h0)
      have HC : Hid (∀ w', Below w1.heap.size w1 w' → ∀ j u, (G.map (Value.int .i64))[j]? = some u → w'.cell? ⟨b, off + j, none⟩ = some u) := Lib.hid fun w' h j u hj => ((hb01.trans (h.mono hb01.size)).cell (p := ⟨b, off + j, none⟩) hbs).trans (hc j u hj)
      have hbs1 := Nat.lt_of_lt_of_le hbs hb01.size
      have HB : Hid (Below w1.heap.size w1 (w1.alloc (.cells #[] 3))) := Lib.hid ((Below.refl _ _).alloc (Nat.le_refl _) _)
      have c2 := spec_l11Rec G HSG.out (G.length - 1) m [] b off cap w1.heap.size 0 0 (w1.alloc (.cells #[] 3)) (by simp; omega) hm (Nat.lt_of_lt_of_le hbs1 HB.out.size) (HC.out _ HB.out) (by simp) (fun j u hj => by simp at hj)
      clear c1 hb1 hc0 hWs hr hc hbW
      go_wp2_with fail
      refine (ci _).mono ?_
      rintro e w2 ⟨rfl, hww⟩
      subst hww
      clear ci
      go_wp2_with fail
      refine c2.mono ?_
      rintro e w3 hp
      obtain ⟨v, vs, rfl, hR, hb3⟩ := hp.ss
      clear c2 hp
      have hb13 := HB.out.trans (hb3.mono HB.out.size)
      have hb03 := hb01.trans (hb13.mono hb01.size)
      have HRR := Lib.hid (hR.wider (Nat.le_trans hb01.size HB.out.size) (Nat.le_refl _) (Nat.le_refl _))
      clear hR
      go_wp2_with fail
      go_ret
      exact ⟨_, vs, rfl, by rw [HR.out]; exact HRR.out, hb03⟩
end Go.Proofs.YthalbmlgkkgheaaDoor
