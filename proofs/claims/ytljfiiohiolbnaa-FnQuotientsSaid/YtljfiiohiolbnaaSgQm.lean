/-
  SEMIGROUPS BY THEIR MEMBERSHIP: the numbers below 200 that are none; quotients and common parts so. (Own work, no program.)
-/
import Derived.Test.YtljfiiohiolbnaaSgId
import Derived.Test.YtljfiiohiolbnaaSgQ
import Derived.Test.YtljfiiohiolbnaaCh11M
namespace Go.Proofs.Ytljfiiohiolbnaa
open Go

/-- What fromMembership collects below k. -/
def memK (p : Nat → Bool) (k : Nat) : List Int := (upB (fun n => !p n) k).map Int.ofNat
theorem memK_succ (p : Nat → Bool) (k : Nat) : memK p (k + 1) = if p k then memK p k else memK p k ++ [(k : Int)] := by
  unfold memK; rw [upB_succ]
  cases h : p k
  · simp
  · simp
theorem memK_len (p : Nat → Bool) (k : Nat) : (memK p k).length ≤ k := by unfold memK; rw [List.length_map]; exact upB_len_le _ _
theorem memK_asc (p : Nat → Bool) (k : Nat) : Asc (memK p k) := upB_asc _ k
theorem mem_memK {p : Nat → Bool} {k : Nat} {x : Int} : x ∈ memK p k ↔ ∃ n : Nat, n < k ∧ p n = false ∧ x = (n : Int) := by
  unfold memK upB
  rw [List.mem_map]
  constructor
  · rintro ⟨n, h, rfl⟩
    obtain ⟨h1, h2⟩ := List.mem_filter.1 h
    exact ⟨n, List.mem_range.1 h1, by simpa using h2, rfl⟩
  · rintro ⟨n, h1, h2, rfl⟩
    exact ⟨n, List.mem_filter.2 ⟨List.mem_range.2 h1, by simp [h2]⟩, rfl⟩
theorem quotGaps_mem {G : List Int} (h : isSgB G = true) (d : Int) : quotGaps G d = memK (fun n => hasN G ((n : Int) * d)) 200 := by
  unfold quotGaps memK upB
  have e : List.range 200 = 0 :: (List.range 199).map Nat.succ := List.range_succ_eq_map
  rw [e, List.filter_cons]
  rw [if_neg (by simp [hasN_zero h]), List.filter_map, List.filter_map, List.map_map]
  rfl
theorem gaps_bnd2 {G : List Int} : ∀ x ∈ gapsL G, 0 ≤ x ∧ x ≤ 199 := by
  intro x hx
  unfold gapsL at hx
  split at hx
  · obtain ⟨n, h, rfl⟩ := List.mem_map.1 hx
    have := List.mem_range.1 (List.mem_filter.1 h).1
    simp; omega
  · cases hx
theorem isSum_none : ∀ n, IsSum [] n → n = 0 := by
  intro n h
  induction h with
  | zero => rfl
  | add hg => simp at hg
theorem sg_one : isSgB [1] = true := by
  have hok : okG [1] = true := okG_iff.2 ⟨fun x hx => by simp at hx; subst hx; omega, by simp, by simp⟩
  have h1 : sumB [] 1 = false := by
    cases h : sumB [] 1 with
    | false => rfl
    | true =>
      have := isSum_none _ (sumB_iff.1 h)
      cases this
  refine (isSgB_way hok (by simp) (ascB_true fun k hk => by simp at hk)).2 ⟨?_, fun n _ _ => sumB_iff.2 ?_⟩
  · have : minOf [1] = [1] := by unfold minOf; simp [h1]
    rw [this]; exact Nat.le_refl _
  · have := isSum_mul (G := [1]) (g := 1) (by simp) n
    rwa [Nat.mul_one] at this
theorem gaps_one : gapsL [1] = [] := by
  cases h : gapsL [1] with
  | nil => rfl
  | cons x r =>
    have hx : x ∈ gapsL [1] := by rw [h]; simp
    obtain ⟨n, rfl⟩ := Int.eq_ofNat_of_zero_le (gaps_bnd2 x hx).1
    have h1 := (mem_gapsL sg_one n).1 hx
    have h2 := isSum_mul (G := [1]) (g := 1) (by simp) n
    rw [Nat.mul_one, ← sumB_iff, h1] at h2
    cases h2
theorem fromGp_nil : fromGpB [] = true ∧ fromGpL [] = [1] := fromGp_iff.2 ⟨sg_one, gaps_one⟩
theorem quot_in {G : List Int} (h : isSgB G = true) {d : Int} (h0 : 0 ≤ d) (hd : hasN G d = true) : quotGaps G d = [] := by
  rw [quotGaps_mem h]
  obtain ⟨m, rfl⟩ := Int.eq_ofNat_of_zero_le h0
  rw [hasN_in h, sumB_iff] at hd
  have hm : ∀ n, IsSum G (n * m) := fun n => by
    induction n with
    | zero => rw [Nat.zero_mul]; exact .zero
    | succ n ih => rw [Nat.succ_mul]; exact ih.plus hd
  cases he : memK (fun n => hasN G ((n : Int) * (m : Int))) 200 with
  | nil => rfl
  | cons x r =>
    obtain ⟨n, -, h2, -⟩ := mem_memK.1 (show x ∈ memK (fun n => hasN G ((n : Int) * (m : Int))) 200 by rw [he]; simp)
    have h3 : hasN G (((n * m : Nat)) : Int) = true := by rw [hasN_in h]; exact sumB_iff.2 (hm n)
    rw [show ((n * m : Nat) : Int) = (n : Int) * (m : Int) by simp] at h3
    rw [h3] at h2; cases h2
theorem meet_mem {A B : List Int} (ha : isSgB A = true) (hb : isSgB B = true) : sortL (gapsL A ++ gapsL B) = memK (fun n => hasN A (n : Int) && hasN B (n : Int)) 200 := by
  refine asc_unique (sortL_spec _).1 (memK_asc _ _) fun x => ?_
  rw [(sortL_spec _).2, List.mem_append, mem_memK]
  have key : ∀ {G : List Int}, isSgB G = true → ∀ y, y ∈ gapsL G ↔ ∃ n : Nat, n < 200 ∧ hasN G (n : Int) = false ∧ y = (n : Int) := fun {G} hG y => by
    constructor
    · intro hy
      have hb := gaps_bnd2 y hy
      obtain ⟨n, rfl⟩ := Int.eq_ofNat_of_zero_le hb.1
      exact ⟨n, by omega, by rw [hasN_in hG]; exact (mem_gapsL hG n).1 hy, rfl⟩
    · rintro ⟨n, -, h2, rfl⟩
      rw [hasN_in hG] at h2
      exact (mem_gapsL hG n).2 h2
  rw [key ha, key hb]
  constructor
  · rintro (⟨n, h1, h2, h3⟩ | ⟨n, h1, h2, h3⟩)
    · exact ⟨n, h1, by rw [h2]; rfl, h3⟩
    · exact ⟨n, h1, by rw [h2, Bool.and_false], h3⟩
  · rintro ⟨n, h1, h2, h3⟩
    cases h : hasN A (n : Int)
    · exact .inl ⟨n, h1, h, h3⟩
    · rw [h, Bool.true_and] at h2
      exact .inr ⟨n, h1, h2, h3⟩
end Go.Proofs.Ytljfiiohiolbnaa
