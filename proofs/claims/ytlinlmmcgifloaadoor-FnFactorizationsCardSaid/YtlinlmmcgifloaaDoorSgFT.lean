/-
  TEXTS OF FACTORIZATIONS: no program. (Own work: mkFT.py.)
-/
import Derived.Test.YtlinlmmcgifloaaDoorCh11M
import Derived.Test.YtlinlmmcgifloaaDoorCh2
namespace Go.Proofs.YtlinlmmcgifloaaDoor
open Go

def partT (x g : Int) : ByteArray := numeral x ++ ⟨#[42]⟩ ++ numeral g
def partsT : List Int → List Int → List ByteArray
  | x :: L, g :: G => (if 0 < x then [partT x g] else []) ++ partsT L G
  | [], _ => []
  | _ :: _, [] => []
theorem partsT_snoc : ∀ {L G : List Int} (x g : Int), L.length = G.length → partsT (L ++ [x]) (G ++ [g]) = partsT L G ++ if 0 < x then [partT x g] else []
  | [], [], x, g, _ => by simp [partsT]
  | a :: L, b :: G, x, g, h => by
    rw [List.cons_append, List.cons_append, partsT, partsT, partsT_snoc x g (by simpa using h), List.append_assoc]
  | [], _ :: _, _, _, h => by simp at h
  | _ :: _, [], _, _, h => by simp at h
theorem partsT_take {L G : List Int} (h : L.length = G.length) {k : Nat} (hk : k < L.length) : partsT (L.take (k + 1)) (G.take (k + 1)) = partsT (L.take k) (G.take k) ++ if 0 < L[k] then [partT L[k] (G[k]'(by omega))] else [] := by
  rw [List.take_add_one, List.take_add_one, List.getElem?_eq_getElem hk, List.getElem?_eq_getElem (by omega), Option.toList_some, Option.toList_some]
  exact partsT_snoc _ _ (by simp; omega)
theorem numeral_size (x : Int) (h0 : 0 ≤ x) (h1 : x ≤ 1000000) : (numeral x).size ≤ 21 := by
  have h2 := Lib.itoa_length_le x (by omega) (by omega)
  have h3 : (numeral x).size = (Lib.itoa x).length := by unfold numeral; show (Lib.itoa x).toArray.size = _; simp
  omega
theorem partT_size (x g : Int) (h0 : 0 ≤ x) (h1 : x ≤ 1000000) (g0 : 0 ≤ g) (g1 : g ≤ 1000000) : (partT x g).size ≤ 43 := by
  unfold partT
  rw [ByteArray.size_append, ByteArray.size_append]
  have h2 := numeral_size x h0 h1
  have h3 := numeral_size g g0 g1
  have h4 : (⟨#[42]⟩ : ByteArray).size = 1 := rfl
  omega
theorem partsT_len : ∀ (L G : List Int), (partsT L G).length ≤ L.length
  | [], _ => by simp [partsT]
  | _ :: _, [] => by simp [partsT]
  | x :: L, g :: G => by
    rw [partsT, List.length_append, List.length_cons]
    have := partsT_len L G
    split <;> simp <;> omega
theorem partsT_sizes : ∀ (L G : List Int), (∀ x ∈ L, 0 ≤ x ∧ x ≤ 1000000) → (∀ g ∈ G, 0 ≤ g ∧ g ≤ 1000000) → sizes (partsT L G) ≤ 43 * L.length
  | [], _, _, _ => by simp [partsT, sizes]
  | _ :: _, [], _, _ => by simp [partsT, sizes]
  | x :: L, g :: G, hx, hg => by
    rw [partsT, sizes_append, List.length_cons]
    have h1 := partsT_sizes L G (fun y hy => hx y (by simp [hy])) (fun y hy => hg y (by simp [hy]))
    have h2 := partT_size x g (hx x (by simp)).1 (hx x (by simp)).2 (hg g (by simp)).1 (hg g (by simp)).2
    split
    · have h3 : sizes [partT x g] = (partT x g).size := by simp [sizes]
      omega
    · have h3 : sizes [] = 0 := by simp [sizes]
      omega
noncomputable def factText (G L : List Int) : ByteArray := if valueN G L < 0 then ⟨#[]⟩ else if partsT L G = [] then ⟨#[48]⟩ else ⟨(Lib.join ((partsT L G).map (·.data.toList)) (⟨#[43]⟩ : ByteArray).data.toList).toArray⟩
theorem factText_no {G L : List Int} (h : valueN G L < 0) : factText G L = ⟨#[]⟩ := by unfold factText; rw [if_pos h]
theorem factText_nil {G L : List Int} (h : ¬ valueN G L < 0) (hp : partsT L G = []) : factText G L = ⟨#[48]⟩ := by unfold factText; rw [if_neg h, if_pos hp]
theorem factText_yes {G L : List Int} (h : ¬ valueN G L < 0) (hp : partsT L G ≠ []) : factText G L = ⟨(Lib.join ((partsT L G).map (·.data.toList)) (⟨#[43]⟩ : ByteArray).data.toList).toArray⟩ := by unfold factText; rw [if_neg h, if_neg hp]
theorem valueN_facts {G L : List Int} (h : ¬ valueN G L < 0) : isSgB G = true ∧ L.length = G.length ∧ ∀ x ∈ L, 0 ≤ x ∧ x ≤ 1000000 := by
  unfold valueN at h
  split at h
  · next e =>
    rw [Bool.and_eq_true, Bool.and_eq_true, decide_eq_true_eq, List.all_eq_true] at e
    exact ⟨e.1.1, e.1.2, fun x hx => inB_true (e.2 x hx)⟩
  · omega
end Go.Proofs.YtlinlmmcgifloaaDoor
