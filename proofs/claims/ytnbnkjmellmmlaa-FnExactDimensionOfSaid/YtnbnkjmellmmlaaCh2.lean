/-
  CHAPTER 2: contracts of both sides: lists of numbers.
-/
import Derived.Test.YtnbnkjmellmmlaaProg
import Derived.Test.YtnbnkjmellmmlaaKitA
import Derived.Test.YtnbnkjmellmmlaaSh
import Derived.Test.YtnbnkjmellmmlaaCh1
import Derived.WalkKit
import Derived.WalkLawsBesides
import Derived.BigQuiet
import Derived.Deep.QuietTactic
import Derived.Outline
import Derived.Deep.RegionHeld3
import Derived.Deep.AppendLies
import Derived.WalkSmall
import Derived.KernelRfl
import Derived.Lib.SlicesCompact
import Derived.Lib.Small
import Derived.Shelf.SlSortCmp.NoneTotal
import Derived.Lib.OwnBridge
import Derived.Laws.AppendOwnNone
import Derived.WalkSpells
import Derived.Lib.ItoaLen

/-
  PLAIN LEMMAS on lists of numbers: the common divisor, strictly ascending lists, insertion, sums, what is shared. No program in this text.
-/
namespace Go.Proofs.Ytnbnkjmellmmlaa
open Go

/-! ### The common divisor -/
def small (n : Int) : Bool := decide (-1000000 ≤ n) && decide (n ≤ 1000000)
theorem small_iff {n : Int} : small n = true ↔ -1000000 ≤ n ∧ n ≤ 1000000 := by simp [small]
def gcdOf (a b : Int) : Int := if small a && small b then (Nat.gcd a.natAbs b.natAbs : Nat) else 0
theorem gcdOf_in {a b : Int} (ha : small a = true) (hb : small b = true) : gcdOf a b = (Nat.gcd a.natAbs b.natAbs : Nat) := by simp [gcdOf, ha, hb]
theorem gcdOf_out {a b : Int} (h : small a = false ∨ small b = false) : gcdOf a b = 0 := by
  unfold gcdOf; rcases h with h | h <;> simp [h]
theorem gcd_le_million (a b : Nat) (ha : a ≤ 1000000) (hb : b ≤ 1000000) : Nat.gcd a b ≤ 1000000 := by
  rcases Nat.eq_zero_or_pos a with h | h
  · subst h; simpa using hb
  · exact Nat.le_trans (Nat.gcd_le_left b h) ha
theorem gcdOf_bounds (a b : Int) : 0 ≤ gcdOf a b ∧ gcdOf a b ≤ 1000000 := by
  unfold gcdOf
  split
  · rename_i h
    simp only [Bool.and_eq_true, small_iff] at h
    have := gcd_le_million a.natAbs b.natAbs (by omega) (by omega)
    omega
  · omega
/-- The Euclidean step. -/
theorem gcd_step (a b : Nat) : Nat.gcd b (a % b) = Nat.gcd a b := by
  rw [Nat.gcd_comm a b, Nat.gcd_rec b a, Nat.gcd_comm]
def gcdL (L : List Int) : Int := L.foldl gcdOf 0
theorem gcdL_take (L : List Int) (k : Nat) (h : k < L.length) : gcdL (L.take (k + 1)) = gcdOf (gcdL (L.take k)) L[k] := by
  unfold gcdL
  rw [List.take_add_one, List.getElem?_eq_getElem h, List.foldl_append]
  rfl
theorem gcdL_bounds (L : List Int) : 0 ≤ gcdL L ∧ gcdL L ≤ 1000000 := by
  unfold gcdL
  suffices h : ∀ (L : List Int) (a : Int), 0 ≤ a ∧ a ≤ 1000000 → 0 ≤ L.foldl gcdOf a ∧ L.foldl gcdOf a ≤ 1000000 from h L 0 (by omega)
  intro L
  induction L with
  | nil => intro a h; exact h
  | cons x r ih => intro a _; exact ih _ (gcdOf_bounds a x)

/-! ### Strictly ascending lists -/
def Asc (L : List Int) : Prop := ∀ (i j : Nat) (hj : j < L.length) (hij : i < j), L[i]'(Nat.lt_trans hij hj) < L[j]
theorem Asc.nil : Asc [] := fun _ _ hj _ => absurd hj (by simp)
theorem Asc.tail {x : Int} {r : List Int} (h : Asc (x :: r)) : Asc r := fun i j hj hij => by
  have := h (i + 1) (j + 1) (by simp; omega) (by omega)
  simpa using this
theorem Asc.head {x : Int} {r : List Int} (h : Asc (x :: r)) : ∀ y ∈ r, x < y := fun y hy => by
  obtain ⟨k, hk, rfl⟩ := List.getElem_of_mem hy
  have := h 0 (k + 1) (by simp; omega) (by omega)
  simpa using this
theorem Asc.cons {x : Int} {r : List Int} (hx : ∀ y ∈ r, x < y) (hr : Asc r) : Asc (x :: r) := fun i j hj hij => by
  cases j with
  | zero => omega
  | succ j =>
    cases i with
    | zero => simpa using hx _ (List.getElem_mem (by simpa using hj))
    | succ i => simpa using hr i j (by simpa using hj) (by omega)
/-- Neighbours suffice. -/
theorem asc_of_next {L : List Int} (h : ∀ (k : Nat) (hk : k + 1 < L.length), L[k] < L[k + 1]) : Asc L := by
  intro i j hj hij
  induction j with
  | zero => omega
  | succ j ih =>
    by_cases e : i = j
    · subst e; exact h i hj
    · exact Int.lt_trans (ih (by omega) (by omega)) (h j hj)
/-- A strictly ascending list is told by its members. -/
theorem asc_unique : ∀ {L M : List Int}, Asc L → Asc M → (∀ x, x ∈ L ↔ x ∈ M) → L = M
  | [], [], _, _, _ => rfl
  | [], y :: M, _, _, h => absurd ((h y).2 (by simp)) (by simp)
  | x :: L, [], _, _, h => absurd ((h x).1 (by simp)) (by simp)
  | x :: L, y :: M, hL, hM, h => by
    have hx := hL.head; have hy := hM.head
    have e : x = y := by
      rcases List.mem_cons.1 ((h x).1 (by simp)) with e | e
      · exact e
      · rcases List.mem_cons.1 ((h y).2 (by simp)) with e2 | e2
        · exact e2.symm
        · have := hy x e; have := hx y e2; omega
    subst e
    rw [asc_unique hL.tail hM.tail fun z => ?_]
    constructor
    · intro hz
      rcases List.mem_cons.1 ((h z).1 (List.mem_cons_of_mem _ hz)) with e | e
      · have := hx z hz; omega
      · exact e
    · intro hz
      rcases List.mem_cons.1 ((h z).2 (List.mem_cons_of_mem _ hz)) with e | e
      · have := hy z hz; omega
      · exact e

/-! ### Insertion -/
def ins (x : Int) : List Int → List Int
  | [] => [x]
  | y :: r => if x < y then x :: y :: r else if x = y then y :: r else y :: ins x r
theorem mem_ins (x z : Int) : ∀ L : List Int, z ∈ ins x L ↔ z = x ∨ z ∈ L
  | [] => by simp [ins]
  | y :: r => by
    unfold ins
    split
    · simp
    · split
      · rename_i h; subst h; simp
      · simp only [List.mem_cons, mem_ins x z r]
        constructor
        · rintro (h | h | h) <;> simp [h]
        · rintro (h | h | h) <;> simp [h]
theorem asc_ins (x : Int) : ∀ L : List Int, Asc L → Asc (ins x L)
  | [], _ => by unfold ins; exact Asc.cons (by simp) Asc.nil
  | y :: r, h => by
    unfold ins
    split
    · rename_i hxy
      exact Asc.cons (fun z hz => by
        rcases List.mem_cons.1 hz with e | e
        · omega
        · have := h.head z e; omega) h
    · split
      · exact h
      · rename_i h1 h2
        exact Asc.cons (fun z hz => by
          rcases (mem_ins x z r).1 hz with e | e
          · omega
          · exact h.head z e) (asc_ins x r h.tail)
def sortL (L : List Int) : List Int := L.foldl (fun acc x => ins x acc) []
theorem sortL_take (L : List Int) (k : Nat) (h : k < L.length) : sortL (L.take (k + 1)) = ins L[k] (sortL (L.take k)) := by
  unfold sortL
  rw [List.take_add_one, List.getElem?_eq_getElem h, List.foldl_append]
  rfl
theorem sortL_spec (L : List Int) : Asc (sortL L) ∧ ∀ x, x ∈ sortL L ↔ x ∈ L := by
  suffices h : ∀ (L acc : List Int), Asc acc → Asc (L.foldl (fun acc x => ins x acc) acc) ∧ ∀ x, x ∈ L.foldl (fun acc x => ins x acc) acc ↔ x ∈ acc ∨ x ∈ L by
    have := h L [] Asc.nil
    exact ⟨this.1, fun x => by unfold sortL; rw [this.2]; simp⟩
  intro L
  induction L with
  | nil => intro acc h; exact ⟨h, fun x => by simp⟩
  | cons a r ih =>
    intro acc h
    obtain ⟨h1, h2⟩ := ih (ins a acc) (asc_ins a acc h)
    refine ⟨h1, fun x => ?_⟩
    rw [List.foldl_cons, h2, mem_ins]
    simp only [List.mem_cons]
    constructor
    · rintro ((h | h) | h) <;> simp [h]
    · rintro (h | h | h) <;> simp [h]
theorem sortL_eq {L M : List Int} (h : Asc M) (hm : ∀ x, x ∈ M ↔ x ∈ L) : M = sortL L :=
  asc_unique h (sortL_spec L).1 fun x => by rw [hm, (sortL_spec L).2]
theorem ins_length (x : Int) : ∀ L : List Int, (ins x L).length ≤ L.length + 1
  | [] => by simp [ins]
  | y :: r => by
    unfold ins
    split
    · simp
    · split
      · simp
      · have := ins_length x r; simp; omega
theorem sortL_length_le (L : List Int) : (sortL L).length ≤ L.length := by
  suffices h : ∀ (L acc : List Int), (L.foldl (fun acc x => ins x acc) acc).length ≤ acc.length + L.length by
    have := h L []; simpa [sortL] using this
  intro L
  induction L with
  | nil => intro acc; simp
  | cons a r ih => intro acc; have := ih (ins a acc); have := ins_length a acc; simp only [List.foldl_cons, List.length_cons]; omega
/-- WHERE x BELONGS: behind 'at' all are greater, ahead of it all are less: insertion at that place. -/
theorem ins_at (x : Int) : ∀ (L : List Int) (k : Nat), (∀ y ∈ L.take k, y < x) → (∀ y ∈ L.drop k, x < y) → k ≤ L.length → ins x L = L.take k ++ x :: L.drop k
  | [], k, _, _, hk => by simp at hk; subst hk; simp [ins]
  | y :: r, 0, _, h2, _ => by
    have := h2 y (by simp)
    unfold ins
    rw [if_pos this]; rfl
  | y :: r, k + 1, h1, h2, hk => by
    have hy := h1 y (by simp)
    unfold ins
    rw [if_neg (by omega), if_neg (by omega), ins_at x r k (fun z hz => h1 z (by simp [hz])) (fun z hz => h2 z (by simpa using hz)) (by simpa using hk)]
    rfl
theorem ins_mem (x : Int) (L : List Int) (hL : Asc L) (h : x ∈ L) : ins x L = L :=
  asc_unique (asc_ins x L hL) hL fun z => by
    rw [mem_ins]
    constructor
    · rintro (e | e)
      · rw [e]; exact h
      · exact e
    · exact .inr
end Go.Proofs.Ytnbnkjmellmmlaa

/-
  CONTRACTS of the reference's chapter 2: lists of numbers.
-/
namespace Go.Proofs.Ytnbnkjmellmmlaa
open Go Go.RowKit

def inB (x lo hi : Int) : Bool := decide (lo ≤ x) && decide (x ≤ hi)
theorem inB_true {x lo hi : Int} (h : inB x lo hi = true) : lo ≤ x ∧ x ≤ hi := by simpa [inB] using h
theorem inB_false {x lo hi : Int} (h : inB x lo hi = false) : x < lo ∨ hi < x := by
  simp [inB] at h; omega
theorem inB_mk {x lo hi : Int} (h : lo ≤ x) (h2 : x ≤ hi) : inB x lo hi = true := by simp [inB, h, h2]
theorem inB_no {x lo hi : Int} (h : x < lo ∨ hi < x) : inB x lo hi = false := by simp [inB]; omega
theorem small_in (x : Int) : small x = inB x (-1000000) 1000000 := rfl

set_option maxRecDepth 100000 in
theorem l1In_any (x lo hi : Int) (w : World) : Calls Try.prog 49 #[.int .i64 x, .int .i64 lo, .int .i64 hi] w fun e w' => e = .returned (.bool (inB x lo hi)) ∧ w' = w := by
  by_cases h0 : lo ≤ x
  · by_cases h1 : x ≤ hi
    · rw [inB_mk h0 h1]
      go_enter Try.func49, Try.ntmps49
      go_wp2_with fail
      go_ret
      exact ⟨rfl, rfl⟩
    · rw [inB_no (by omega)]
      have h1' : ¬ x ≤ hi := h1
      go_enter Try.func49, Try.ntmps49
      go_wp2_with fail
      go_ret
      exact ⟨rfl, rfl⟩
  · rw [inB_no (by omega)]
    go_enter Try.func49, Try.ntmps49
    go_wp2_with fail
    go_ret
    exact ⟨rfl, rfl⟩

theorem l2Small_any (x : Int) (w : World) : Calls Try.prog 79 #[.int .i64 x] w fun e w' => e = .returned (.bool (small x)) ∧ w' = w := by
  rw [small_in]
  go_enter Try.func79, Try.ntmps79
  go_wp2_with fail
  refine (l1In_any _ _ _ _).mono ?_
  rintro e w' ⟨rfl, rfl⟩
  go_wp2_with fail
  go_ret
  exact ⟨rfl, rfl⟩

theorem l1Max_neg (x : Int) (h0 : -1000000 ≤ x) (h1 : x ≤ 1000000) (w : World) : Calls Try.prog 80 #[.int .i64 x, .int .i64 (-x)] w fun e w' => e = .returned (.int .i64 (x.natAbs : Int)) ∧ w' = w := by
  by_cases h : -x < x
  · obtain ⟨n, rfl⟩ := Int.eq_ofNat_of_zero_le (show 0 ≤ x by omega)
    go_enter Try.func80, Try.ntmps80
    go_wp2_with fail
    go_ret
    exact ⟨by first | (simp; done) | (simp; rfl), rfl⟩
  · obtain ⟨n, hn⟩ := Int.eq_ofNat_of_zero_le (show 0 ≤ -x by omega)
    obtain rfl : x = -(n : Int) := by omega
    go_enter Try.func80, Try.ntmps80
    go_wp2_with fail
    go_ret
    exact ⟨by first | (simp; done) | (simp; rfl), rfl⟩

set_option maxRecDepth 100000 in
set_option maxHeartbeats 400000 in
theorem spec_GcdOf (a b : Int) (w : World) : Calls Try.prog 71 #[.int .i64 a, .int .i64 b] w fun e w' => e = .returned (.int .i64 (gcdOf a b)) ∧ w' = w := by
  have ca := fun w => l2Small_any a w
  have cb := fun w => l2Small_any b w
  cases hsa : small a
  · rw [gcdOf_out (.inl hsa)]
    rw [hsa] at ca
    clear cb hsa
    go_enter Try.func71, Try.ntmps71
    go_wp2_with fail
    refine (ca _).mono ?_
    rintro e w' ⟨rfl, rfl⟩
    go_wp2_with fail
    go_ret
    exact ⟨rfl, rfl⟩
  · rw [hsa] at ca
    cases hsb : small b
    · rw [gcdOf_out (.inr hsb)]
      rw [hsb] at cb
      clear hsa hsb
      go_enter Try.func71, Try.ntmps71
      go_wp2_with fail
      refine (ca _).mono ?_
      rintro e w' ⟨rfl, rfl⟩
      go_wp2_with fail
      refine (cb _).mono ?_
      rintro e w' ⟨rfl, rfl⟩
      go_wp2_with fail
      go_ret
      exact ⟨rfl, rfl⟩
    · rw [gcdOf_in hsa hsb]
      rw [hsb] at cb
      obtain ⟨a0, a1⟩ := small_iff.1 hsa
      obtain ⟨b0, b1⟩ := small_iff.1 hsb
      have ma := l1Max_neg a a0 a1
      have mb := l1Max_neg b b0 b1
      have ha : a.natAbs ≤ 1000000 := by omega
      have hb : b.natAbs ≤ 1000000 := by omega
      clear hsa hsb
      generalize a.natAbs = x at *
      generalize b.natAbs = y at *
      go_enter Try.func71, Try.ntmps71
      go_wp2_with fail
      refine (ca _).mono ?_
      rintro e w' ⟨rfl, rfl⟩
      go_wp2_with fail
      refine (cb _).mono ?_
      rintro e w' ⟨rfl, rfl⟩
      go_wp2_with fail
      refine (ma _).mono ?_
      rintro e w' ⟨rfl, rfl⟩
      go_wp2_with fail
      refine (mb _).mono ?_
      rintro e w' ⟨rfl, rfl⟩
      clear ca cb ma mb a0 a1 b0 b1
      go_wp2_with fail
      go_loop [0, 1] (fun p q => ∃ (m n : Nat), m ≤ 1000000 ∧ n ≤ 1000000 ∧ p = .int .i64 (m : Int) ∧ q = .int .i64 (n : Int) ∧ Nat.gcd m n = Nat.gcd x y) (fun _ q => (intOf q).toNat)
      case atStart => exact ⟨x, y, ha, hb, rfl, rfl, rfl⟩
      case round =>
        obtain ⟨m, n, hm, hn, rfl, rfl, hg⟩ := hrel
        have HG := Lib.hid hg
        clear hg
        by_cases h0 : n = 0
        · subst h0
          go_wp2_with fail
          go_ret
          exact ⟨by rw [← HG.out, Nat.gcd_zero_right]; rfl, rfl⟩
        · have hp : 0 < n := by omega
          have hp2 : 1 ≤ n := hp
          go_wp2_with fail
          go_round
          case rel => exact ⟨n, m % n, hn, by have := Nat.mod_lt m hp; omega, rfl, by go_num, by rw [gcd_step]; exact HG.out⟩
          case measure => simp [intOf]; have := Nat.mod_lt m hp; omega

set_option maxRecDepth 100000 in
set_option maxHeartbeats 400000 in
theorem spec_GcdOfList (L : List Int) (a : Option Addr) (cap : Nat) (w : World) (hr : SlV w a (L.map (Value.int .i64))) (hb : L.length ≤ maxLen) :
    Calls Try.prog 50 #[.slice a L.length cap] w fun e w' => e = .returned (.int .i64 (gcdL L)) ∧ w' = w := by
  unfold maxLen at hb
  go_enter Try.func50, Try.ntmps50
  go_wp2_with fail
  go_loop [3, 4] (fun o i => ∃ k : Nat, k ≤ L.length ∧ i = .int .i64 (k : Int) ∧ o = .int .i64 (gcdL (L.take k))) (fun _ i => L.length - (intOf i).toNat)
  case atStart => exact ⟨0, Nat.zero_le _, rfl, rfl⟩
  case round =>
    obtain ⟨k, hk, rfl, rfl⟩ := hrel
    by_cases hlt : k < L.length
    · obtain ⟨b, off, rfl, hbs, hc⟩ := hr.open (by intro h; rw [List.map_eq_nil_iff] at h; subst h; simp at hlt)
      have hcell : w.cell? ⟨b, off + k, none⟩ = some (.int .i64 L[k]) := hc k _ (by simp [hlt])
      have HG := Lib.hid (gcdL_take L k hlt)
      clear hc hr
      generalize L[k] = x at *
      go_wp2_with fail
      refine (spec_GcdOf _ _ _).mono ?_
      rintro e w' ⟨rfl, rfl⟩
      go_wp2_with fail
      go_round
      case rel => exact ⟨k + 1, by omega, by go_num, by rw [HG.out]⟩
      case measure => simp [intOf]; omega
    · obtain rfl : k = L.length := by omega
      have HT := Lib.hid (List.take_of_length_le (Nat.le_refl L.length))
      clear hr
      go_wp2_with fail
      go_ret
      exact ⟨by rw [← HT.out]; simp, rfl⟩

/-- Is a number among them. -/
def hasB (L : List Int) (n : Int) : Bool := decide (n ∈ L)


/-- Each number is greater than the one before it. -/
def Next (L : List Int) : Prop := ∀ (k : Nat) (hk : k + 1 < L.length), L[k] < L[k + 1]
open Classical in
noncomputable def ascB (L : List Int) : Bool := if Next L then true else false
theorem ascB_true {L : List Int} (h : Next L) : ascB L = true := by unfold ascB; rw [if_pos h]
theorem ascB_false {L : List Int} (h : ¬ Next L) : ascB L = false := by unfold ascB; rw [if_neg h]
theorem asc_of_ascB {L : List Int} (h : ascB L = true) : Asc L := by
  unfold ascB at h
  split at h
  · rename_i hn; exact asc_of_next hn
  · cases h

set_option maxRecDepth 100000 in
set_option maxHeartbeats 400000 in
theorem spec_IsAscending (L : List Int) (a : Option Addr) (cap : Nat) (w : World) (hr : SlV w a (L.map (Value.int .i64))) (hb : L.length ≤ maxLen) :
    Calls Try.prog 56 #[.slice a L.length cap] w fun e w' => e = .returned (.bool (ascB L)) ∧ Below w.heap.size w w' := by
  unfold maxLen at hb
  go_enter Try.func56, Try.ntmps56
  go_wp2_with fail
  go_loopw [3] (fun i wr => ∃ k : Nat, (k ≤ L.length ∨ k = 1) ∧ 1 ≤ k ∧ i = .int .i64 (k : Int) ∧ (∀ (j : Nat) (hj : j + 1 < L.length), j + 1 < k → L[j] < L[j + 1]) ∧ Below w.heap.size w wr) (fun i _ => L.length - (intOf i).toNat)
  case atStart => exact ⟨1, .inr rfl, Nat.le_refl _, rfl, fun j hj h => by omega, Below.refl _ _⟩
  case round =>
    obtain ⟨k, hk, hk1, rfl, hasc, hbel⟩ := hrel
    have HA := Lib.hid hasc
    clear hasc
    by_cases hlt : k < L.length
    · obtain ⟨b, off, rfl, hbs, hc⟩ := hr.open (by intro h; rw [List.map_eq_nil_iff] at h; subst h; simp at hlt)
      have hk' : k - 1 < L.length := by omega
      have hcell : wr.cell? ⟨b, off + k, none⟩ = some (.int .i64 L[k]) := by rw [hbel.cell (p := ⟨b, off + k, none⟩) hbs]; exact hc k _ (by simp [hlt])
      have hcell2 : wr.cell? ⟨b, off + (k - 1), none⟩ = some (.int .i64 L[k - 1]) := by rw [hbel.cell (p := ⟨b, off + (k - 1), none⟩) hbs]; exact hc (k - 1) _ (by simp [hk'])
      have hx0 : (0 : Int) ≤ (k : Int) := by omega
      have hx1 : (k : Int) < (L.length : Int) := by omega
      have hx2 : (0 : Int) ≤ (k : Int) - 1 := by omega
      have hx3 : (k : Int) - 1 < (L.length : Int) := by omega
      have hw1 : IntKind.i64.wrap ((k : Int) - 1) = (k : Int) - 1 := IntWalk.i64_in _ (by omega)
      have ht1 : ((k : Int) - 1).toNat = k - 1 := by omega
      clear hc hr
      by_cases hle : L[k] ≤ L[k - 1]
      · have HR := Lib.hid (ascB_false (L := L) (by
          intro h
          have h1 := h (k - 1) (by omega)
          have e : L[k - 1 + 1] = L[k] := by congr 1; omega
          omega))
        have hq : decide (L[k] ≤ L[k - 1]) = true := decide_eq_true hle
        generalize L[k] = x at *
        generalize L[k - 1] = y at *
        go_wp2_with fail
        go_quiet (fail)
        go_wp2_with fail
        go_ret
        exact ⟨by rw [HR.out]; rfl, by first | exact hbel | exact below_drewN hbel _⟩
      · have hq : decide (L[k] ≤ L[k - 1]) = false := decide_eq_false hle
        have HL := Lib.hid hle
        clear hle
        have HS : Hid (∀ (j : Nat) (hj : j + 1 < L.length), j + 1 < k + 1 → L[j] < L[j + 1]) := Lib.hid (fun j hj h => by
          by_cases e : j + 1 < k
          · exact HA.out j hj e
          · obtain rfl : k = j + 1 := by omega
            have := HL.out
            have e2 : L[j + 1 - 1] = L[j] := by congr 1
            omega)
        generalize L[k] = x at *
        generalize L[k - 1] = y at *
        go_wp2_with fail
        go_quiet (fail)
        go_wp2_with fail
        go_roundw
        case rel => exact ⟨k + 1, .inl (by omega), by omega, by go_num, HS.out, by first | exact hbel | exact below_drewN hbel _⟩
        case measure => simp [intOf]; omega
    · have HR := Lib.hid (ascB_true (L := L) (fun j hj => HA.out j hj (by omega)))
      clear hr
      go_wp2_with fail
      go_ret
      exact ⟨by rw [HR.out]; rfl, hbel⟩
end Go.Proofs.Ytnbnkjmellmmlaa

/-
  CONTRACT of the reference's SortList: insertion into a row of the call's own.
-/
namespace Go.Proofs.Ytnbnkjmellmmlaa
open Go Go.RowKit

theorem infoIntL : (Try.prog.info? 3).map (fun i => (i.zero, i.size, i.bytes)) = some (some (Value.int .i64 0), 1, 8) := by kernel_rfl

/-- The row's first part. -/
theorem owns_take {w : World} {base : Nat} {e : TypeId} {g n cap m : Nat} {xs : List Value} (h : w.ownsRow base e 1 (.slice (some ⟨g, 0, none⟩) n cap) n xs) (hm : m ≤ n) :
    w.ownsRow base e 1 (.slice (some ⟨g, 0, none⟩) m cap) m (xs.take m) := by
  obtain ⟨hl, ⟨hv, h0⟩ | ⟨g', cap', cur, hv, hb, hg, hn, hc, hs, ht⟩⟩ := h
  · cases hv
  · injection hv with h1 h2 h3
    injection h1 with h1
    injection h1 with h1
    subst h1 h3
    refine ⟨by rw [List.length_take]; omega, .inr ⟨g, cap, cur, rfl, hb, hg, by omega, hc, hs, ?_⟩⟩
    rw [← ht, List.take_take]
    congr 1
    omega

theorem owns_base {w : World} {base base' : Nat} {e : TypeId} {g n cap : Nat} {xs : List Value} (h : w.ownsRow base e 1 (.slice (some ⟨g, 0, none⟩) n cap) n xs) (hb' : base' ≤ g) :
    w.ownsRow base' e 1 (.slice (some ⟨g, 0, none⟩) n cap) n xs := by
  obtain ⟨hl, ⟨hv, h0⟩ | ⟨g', cap', cur, hv, hb, hg, hn, hc, hs, ht⟩⟩ := h
  · cases hv
  · injection hv with h1 h2 h3
    injection h1 with h1
    injection h1 with h1
    subst h1 h3
    exact ⟨hl, .inr ⟨g, cap, cur, rfl, hb', hg, hn, hc, hs, ht⟩⟩

/-- A row whose block stands as it stood. -/
theorem owns_block {w w' : World} {base : Nat} {e : TypeId} {g n cap : Nat} {xs : List Value} (h : w.ownsRow base e 1 (.slice (some ⟨g, 0, none⟩) n cap) n xs) (hg : w'.heap[g]? = w.heap[g]?) :
    w'.ownsRow base e 1 (.slice (some ⟨g, 0, none⟩) n cap) n xs := by
  obtain ⟨hl, ⟨hv, h0⟩ | ⟨g', cap', cur, hv, hb, hgc, hn, hc, hs, ht⟩⟩ := h
  · cases hv
  · injection hv with h1 h2 h3
    injection h1 with h1
    injection h1 with h1
    subst h1 h3
    exact ⟨hl, .inr ⟨g, cap, cur, rfl, hb, by rw [hg]; exact hgc, hn, hc, hs, ht⟩⟩

theorem owns_below {w w' : World} {base : Nat} {e : TypeId} {v : Value} {n : Nat} {xs : List Value} (h : w.ownsRow base e 1 v n xs) (hb : Below w.heap.size w w') : w'.ownsRow base e 1 v n xs := by
  have hl := h.lt
  obtain ⟨hx, hv | ⟨g, cap, cur, rfl, h1, h2, h3⟩⟩ := h
  · exact ⟨hx, .inl hv⟩
  · exact ⟨hx, .inr ⟨g, cap, cur, rfl, h1, by rw [hb.block g (hl g rfl).2]; exact h2, h3⟩⟩

theorem owns_facts {w : World} {base : Nat} {e : TypeId} {g n cap : Nat} {xs : List Value} (h : w.ownsRow base e 1 (.slice (some ⟨g, 0, none⟩) n cap) n xs) :
    base ≤ g ∧ g < w.heap.size ∧ n ≤ cap ∧ cap ≤ maxLen ∧ xs.length = n ∧ ∀ (i : Nat) (u : Value), xs[i]? = some u → w.cell? ⟨g, i, none⟩ = some u := by
  obtain ⟨hl, ⟨hv, h0⟩ | ⟨g', cap', cur, hv, hb, hg, hn, hc, hs, ht⟩⟩ := h
  · cases hv
  · injection hv with h1 h2 h3
    injection h1 with h1
    injection h1 with h1
    subst h1 h3
    refine ⟨hb, ?_, hn, hc, by omega, fun i u hi => ?_⟩
    · rcases Nat.lt_or_ge g w.heap.size with h1 | h1
      · exact h1
      · rw [Array.getElem?_eq_none h1] at hg; cases hg
    · rw [cell_of_row w g i cur e (0, 0) hg, ← hi, ← ht, List.getElem?_take, if_pos]
      · simp
      · have := (List.getElem?_eq_some_iff.1 hi).1
        omega

/-- An append at a step of a region that draws: of nothing too, where the row is not empty. -/
theorem step_append_some {P : Program} (w : World) {ops : Array Oper} {o : Oper} {a : Act} {K : Act → World → Prop} {Q : Exit → Act → World → Prop} {E : Prop} (hgd : o.guard = none) (s x : Operand) (t : TypeId)
    (ho : o.op = .call { callee := .builtin .append, args := #[s, x], argTypes := #[t, t] })
    (base : Nat) (e : TypeId) (i : TypeInfo) (z : Value) (size bytes : Nat) (ht : P.underlying t = some (.slice e)) (hi : P.info? e = some i) (hz : i.zero = some z)
    (hsize : i.size = size) (hby : i.bytes = bytes) (hzs : z.cells.size = size) (hsz : 0 < size)
    (v : Value) (n : Nat) (xs : List Value) (hs : a.eval s = v) (hown : w.ownsRow base e size v n xs)
    (ad : Addr) (m c : Nat) (news : List Value) (hx : a.eval x = .slice (some ad) m c) (hl : news.length = m * size) (hnews : ∀ j u, news[j]? = some u → w.cell? (ad.add j) = some u) (h1 : ∀ u ∈ news, u.oneCell' = true)
    (hm : 0 < n + m) (h63 : n + m ≤ maxLen) (hbytes : (n + m) * bytes ≤ 140737488355328) (hbase : base ≤ w.heap.size)
    (h : ∀ g cap w', w'.ownsRow base e size (.slice (some ⟨g, 0, none⟩) (n + m) cap) (n + m) (xs ++ news) → w.grownBy w' v.ownBlock → (v.ownBlock = some g ∨ g = w.heap.size) → g < w'.heap.size → K (a.put o.dst (.slice (some ⟨g, 0, none⟩) (n + m) cap)) w') :
    if Region.wanted o (yielded ops a.tmps) = true then Oper.wp P o a w K Q else E := by
  have hw : Region.wanted o (yielded ops a.tmps) = true := by simp [Region.wanted, hgd]
  rw [if_pos hw]
  obtain ⟨v', w', hr, h2, h3, _, h5⟩ := run_append_own_at (P := P) w base t o.type e i z size bytes ht hi hz hsize hby hzs hsz v n xs hown ad m c news hl hnews h1 h63 hbytes hbase
  obtain ⟨g, cap, rfl, _, hlt⟩ := h2.form (by omega)
  unfold Oper.wp execOp
  simp only [ho, resolve, invoke, builtin, Sem.run_bind, Sem.run_pure, Result.andThen_ok, List.map_toArray, List.map_cons, List.map_nil, hs, hx, hr]
  refine h g cap w' h2 h3 ?_ hlt
  rcases h5 with h5 | h5
  · exact .inl (by rw [← h5]; rfl)
  · right
    simpa [Value.ownBlock] using h5

theorem owns_open {w : World} {base : Nat} {e : TypeId} {v : Value} {n : Nat} {xs : List Value} (h : w.ownsRow base e 1 v n xs) (hne : v ≠ .slice none 0 0) : ∃ g cap, v = .slice (some ⟨g, 0, none⟩) n cap ∧ base ≤ g := by
  obtain ⟨hl, ⟨hv, h0⟩ | ⟨g, cap, cur, hv, hb, hg, hn, hc, hs, ht⟩⟩ := h
  · exact absurd hv hne
  · exact ⟨g, cap, hv, hb⟩

theorem news_of_owns {w w' : World} {base : Nat} {e : TypeId} {g n cap : Nat} {xs : List Value} (h : w.ownsRow base e 1 (.slice (some ⟨g, 0, none⟩) n cap) n xs) (hg : w'.heap[g]? = w.heap[g]?) (m : Nat) :
    ∀ j u, (xs.drop m)[j]? = some u → w'.cell? ((⟨g, m, none⟩ : Addr).add j) = some u := by
  intro j u hu
  have hadd : (⟨g, m, none⟩ : Addr).add j = ⟨g, m + j, none⟩ := by unfold Addr.add; split <;> simp_all
  rw [hadd]
  exact (owns_facts (owns_block h hg)).2.2.2.2.2 (m + j) u (by rw [← hu, List.getElem?_drop])
theorem int_cells (L : List Int) (m : Nat) : ∀ u ∈ (L.map (Value.int .i64)).drop m, u.oneCell' = true := by
  intro u hu
  obtain ⟨z, -, rfl⟩ := List.mem_map.1 (List.mem_of_mem_drop hu)
  rfl

def SortPost (L : List Int) (w : World) (e : Ending) (w' : World) : Prop :=
  ∃ g cap, e = .returned (.slice (some ⟨g, 0, none⟩) (sortL L).length cap) ∧ w'.ownsRow w.heap.size 3 1 (.slice (some ⟨g, 0, none⟩) (sortL L).length cap) (sortL L).length ((sortL L).map (Value.int .i64)) ∧ Below w.heap.size w w'

set_option maxRecDepth 100000 in
set_option maxHeartbeats 1600000 in
theorem spec_SortList (L : List Int) (a : Option Addr) (cap : Nat) (w : World) (hr : SlV w a (L.map (Value.int .i64))) (hb : L.length ≤ 1048576) :
    Calls Try.prog 74 #[.slice a L.length cap] w (SortPost L w) := by
  obtain ⟨i0, hi, hz0, hz1, hz2⟩ := info_parts infoIntL
  go_enter Try.func74, Try.ntmps74
  go_wp2_with fail
  have hown0 : (w.alloc (.cells #[] 3)).ownsRow w.heap.size 3 1 (.slice (some ⟨w.heap.size, 0, none⟩) 0 0) 0 [] := World.ownsRow_lit w #[] 0 (Nat.le_refl _) (by simp) rfl
  have hbel0 : Below w.heap.size w (w.alloc (.cells #[] 3)) := (Below.refl _ _).alloc (Nat.le_refl _) _
  go_loopw [3, 4] (fun v i wr => ∃ (k g c : Nat), k ≤ L.length ∧ i = .int .i64 (k : Int) ∧ v = .slice (some ⟨g, 0, none⟩) (sortL (L.take k)).length c ∧
      wr.ownsRow w.heap.size 3 1 (.slice (some ⟨g, 0, none⟩) (sortL (L.take k)).length c) (sortL (L.take k)).length ((sortL (L.take k)).map (Value.int .i64)) ∧ Below w.heap.size w wr) (fun _ i _ => L.length - (intOf i).toNat)
  case atStart => exact ⟨0, w.heap.size, 0, Nat.zero_le _, rfl, rfl, hown0, hbel0⟩
  case round =>
    clear hown0 hbel0
    obtain ⟨k, g, c, hk, rfl, rfl, hown, hbel⟩ := hrel
    by_cases hlt : k < L.length
    · obtain ⟨b, off, rfl, hbs, hc⟩ := hr.open (by intro h; rw [List.map_eq_nil_iff] at h; subst h; simp at hlt)
      have hcell : w.cell? ⟨b, off + k, none⟩ = some (.int .i64 L[k]) := hc k _ (by simp [hlt])
      have HN := Lib.hid (sortL_take L k hlt)
      have HL : (sortL (L.take k)).length ≤ k := by have := sortL_length_le (L.take k); rw [List.length_take] at this; omega
      have HA := Lib.hid (sortL_spec (L.take k)).1
      clear hc hr
      generalize L[k] = x at *
      generalize sortL (L.take k) = M at *
      go_wp2_with fail
      go_loopw [5] (fun p w2 => ∃ m : Nat, m ≤ M.length ∧ p = .int .i64 (m : Int) ∧ (∀ y ∈ M.drop m, x < y) ∧
        w2.ownsRow w.heap.size 3 1 (.slice (some ⟨g, 0, none⟩) M.length c) M.length (M.map (Value.int .i64)) ∧ Below w.heap.size w w2) (fun p _ => (intOf p).toNat)
      case atStart => exact ⟨M.length, Nat.le_refl _, rfl, by simp, hown, hbel⟩
      case round =>
        clear hown hbel
        obtain ⟨m, hm, rfl, hgt, hown, hbel⟩ := hrel
        have HG := Lib.hid hgt
        obtain ⟨hg0, hg1, hmc, hcm, hln, hcs⟩ := owns_facts hown
        have HC := Lib.hid hcs
        clear hgt hcs hln
        by_cases hm0 : 0 < m
        · have hm1 : m - 1 < M.length := by omega
          have hcellM : wr.cell? ⟨g, m - 1, none⟩ = some (.int .i64 M[m - 1]) := HC.out (m - 1) _ (by simp [hm1])
          have hcell2 : wr.cell? ⟨b, off + k, none⟩ = some (.int .i64 x) := (hbel.cell (p := ⟨b, off + k, none⟩) hbs).trans hcell
          have hi0 : (0 : Int) < (m : Int) := by omega
          have hx0 : (0 : Int) ≤ (k : Int) := by omega
          have hx1 : (k : Int) < (L.length : Int) := by omega
          have hx2 : (0 : Int) ≤ (m : Int) - 1 := by omega
          have hx3 : (m : Int) - 1 < (M.length : Int) := by omega
          have hw1 : IntKind.i64.wrap ((m : Int) - 1) = (m : Int) - 1 := IntWalk.i64_in _ (by omega)
          have ht1 : ((m : Int) - 1).toNat = m - 1 := by omega
          have HY := Lib.hid (List.getElem_mem hm1)
          by_cases hxy : x < M[m - 1]
          · have hq : decide (x < M[m - 1]) = true := decide_eq_true hxy
            have HD : Hid (∀ z ∈ M.drop (m - 1), x < z) := Lib.hid (by
              intro z hz
              rw [List.drop_eq_getElem_cons hm1, List.mem_cons] at hz
              rcases hz with hz | hz
              · rw [hz]; exact hxy
              · exact HG.out z (by rw [show m = m - 1 + 1 by omega]; exact hz))
            clear HY
            generalize M[m - 1] = y at *
            go_wp2_with fail
            go_quiet (fail)
            go_wp2_with fail
            go_roundw
            case rel => exact ⟨m - 1, by omega, by go_num, HD.out, owns_block hown rfl, below_drewN hbel _⟩
            case measure => simp [intOf]; omega
          · have hq : decide (x < M[m - 1]) = false := decide_eq_false hxy
            by_cases he : M[m - 1] = x
            · have hq2 : (M[m - 1] == x) = true := by rw [beq_iff_eq]; exact he
              have HE := Lib.hid (HN.out.trans (ins_mem x M HA.out (by have := HY.out; rw [he] at this; exact this)))
              clear HY hxy he
              generalize M[m - 1] = y at *
              go_wp2_with fail
              go_quiet (fail)
              go_wp2_with fail
              go_quiet (fail)
              go_wp2_with fail
              go_roundw
              case rel => exact ⟨k + 1, g, c, by omega, by go_num, by rw [HE.out], by rw [HE.out]; exact owns_block hown rfl, below_drewN hbel _⟩
              case measure => simp [intOf]; omega
            · have hq2 : (M[m - 1] == x) = false := by rw [beq_eq_false_iff_ne]; exact he
              have HLT : Hid (∀ z ∈ M.take m, z < x) := Lib.hid (by
                intro z hz
                obtain ⟨q, hq, rfl⟩ := List.mem_take_iff_getElem.1 hz
                rcases Nat.lt_or_ge q (m - 1) with h | h
                · have := HA.out q (m - 1) hm1 h
                  omega
                · have : q = m - 1 := by omega
                  subst this
                  omega)
              clear HY hxy he
              generalize M[m - 1] = y at *
              have hx4 : (m : Int) ≤ (M.length : Int) := by omega
              have hx5 : (m : Int) ≤ (c : Int) := by omega
              have hx6 : (M.length : Int) ≤ (c : Int) := by omega
              by_cases hmcap : m < c
              · go_wp2_with fail
                go_quiet (fail)
                go_wp2_with fail
                go_quiet (fail)
                go_wp2_with (at_builtin; refine wpList_append_own _ rfl (.tmp 46) (.tmp 49) 22 rfl wr.heap.size 3 i0 (Value.int .i64 0) 1 8 Try.underlying22 hi hz0 hz1 hz2 rfl (by decide) (.slice (some ⟨wr.heap.size, 0, none⟩) 0 0) 0 [] rfl (World.ownsRow_lit (wr.drewN _) #[] 0 (Nat.le_refl _) (by simp) rfl) ⟨g, m, none⟩ (M.length - m) (c - m) ((M.map (Value.int .i64)).drop m) rfl (by simp; try omega) (news_of_owns hown (Below.heap_alloc (wr.drewN _) _ g hg1) m) (int_cells M m) (by unfold maxLen; omega) (by omega) (by simp) ?_; intro v2 w2 hown2 hgrow2 hnil; obtain ⟨r, cr, rfl, hr0⟩ := owns_open hown2 (by intro h; have := (hnil.1 h).1; cases this))
                clear hnil
                have hown3 : w2.ownsRow wr.heap.size 3 1 (.slice (some ⟨r, 0, none⟩) (M.length - m) cr) (M.length - m) ((M.map (Value.int .i64)).drop m) := by simpa using hown2
                clear hown2
                have hO2 := owns_take (owns_block hown ((hgrow2.block g (by simp; omega) (by simp [Value.ownBlock]; omega)).trans (Below.heap_alloc (wr.drewN _) _ g hg1))) hm
                have hb2 := Below.grown ((below_drewN hbel _).alloc hbel.size _) hgrow2 (by have := hbel.size; simp; omega) (fun q hq => by simp [Value.ownBlock] at hq; have := hbel.size; omega)
                clear hgrow2
                have hw2 := (owns_facts hown3).2.1
                have hsz2 := hb2.size
                have hb2a := fun o => (hb2.alloc hsz2 o).drew
                have hgr : g ≠ r := by omega
                have hg2 := (owns_facts hO2).2.1
                have HE := Lib.hid (HN.out.trans (ins_at x M m HLT.out HG.out hm))
                have HV : Hid ((M.take m ++ x :: M.drop m).map (Value.int .i64) = ((M.map (Value.int .i64)).take m ++ [.int .i64 x]) ++ ((M.map (Value.int .i64)).drop m).drop 0) := Lib.hid (by simp [List.map_take, List.map_drop])
                have HLn : Hid ((sortL (L.take (k + 1))).length = m + 1 + (M.length - m)) := Lib.hid (by rw [HE.out]; simp; try omega)
                go_region_held3 (fun w' => w'.cell? ⟨b, off + k, none⟩ = some (.int .i64 x))
                  (first
                    | exact (hb4.cell (p := ⟨b, off + k, none⟩) hbs).trans hcell
                    | exact (hb3.cell (p := ⟨b, off + k, none⟩) hbs).trans hcell
                    | exact (hb2.cell (p := ⟨b, off + k, none⟩) hbs).trans hcell
                    | exact ((hb2a _).cell (p := ⟨b, off + k, none⟩) hbs).trans hcell
                    | go_keep)
                  (first
                    | (refine step_append_some _ (by rfl) (.tmp 53) (.tmp 58) 22 (by rfl) w.heap.size 3 i0 (Value.int .i64 0) 1 8 Try.underlying22 hi hz0 hz1 hz2 rfl (by decide) (.slice (some ⟨g, 0, none⟩) m c) m ((M.map (Value.int .i64)).take m) (by rfl) (owns_block hO2 (Below.heap_alloc w2 _ g hg2)) ⟨w2.heap.size, 0, none⟩ 1 1 [.int .i64 x] (by rfl) (by rfl) (World.news_of_block (cs := #[.int .i64 x]) (t := 3) (fr := (0, 0)) (heap_alloc_new w2 _)) (by simp [Value.oneCell']) (by omega) (by unfold maxLen; omega) (by omega) (by simp; omega) ?_; intro g1 c1 w1 ho1 hgr1 hat1 hlt1
                       have hb3 := Below.grown (a := w) (B := w.heap.size) (by first | exact hb2.alloc (by omega) _ | exact (hb2.alloc (by omega) _).drew) hgr1 (by simp; omega) (fun q hq => by simp [Value.ownBlock] at hq; omega)
                       have hR1 := owns_block hown3 ((hgr1.block r (by simp; omega) (by simp [Value.ownBlock]; omega)).trans (Below.heap_alloc w2 _ r hw2))
                       have hsz3 := hb3.size
                       have hg1b := (owns_facts ho1).1)
                    | (refine step_append_some _ (by rfl) (.tmp 59) (.tmp 60) 22 (by rfl) w.heap.size 3 i0 (Value.int .i64 0) 1 8 Try.underlying22 hi hz0 hz1 hz2 rfl (by decide) _ _ _ (by rfl) ho1 ⟨r, 0, none⟩ (M.length - m) cr (((M.map (Value.int .i64)).drop m).drop 0) (by rfl) (by simp) (news_of_owns hR1 rfl 0) (int_cells M m) (by omega) (by unfold maxLen; omega) (by omega) (by omega) ?_; intro g2 c2 w4 ho2 hgr2 hat2 hlt2
                       have hb4 := Below.grown (a := w) (B := w.heap.size) (by first | exact hb3 | exact hb3.drew) hgr2 (by first | omega | (simp; omega)) (fun q hq => by simp [Value.ownBlock] at hq; omega)))
                go_wp2_with fail
                go_roundw
                case rel => exact ⟨k + 1, g2, c2, by omega, by go_num, by rw [HLn.out]; try (first | rfl | simp), by rw [HLn.out, HE.out, HV.out]; exact ho2, hb4⟩
                case measure => simp [intOf]; omega
              · have hml := Lib.hid (show M.length = m by omega)
                obtain rfl : c = m := by omega
                go_wp2_with fail
                go_quiet (fail)
                go_wp2_with fail
                go_quiet (fail)
                go_wp2_with (at_builtin; refine wpList_append_own _ rfl (.tmp 46) (.tmp 49) 22 rfl wr.heap.size 3 i0 (Value.int .i64 0) 1 8 Try.underlying22 hi hz0 hz1 hz2 rfl (by decide) (.slice (some ⟨wr.heap.size, 0, none⟩) 0 0) 0 [] rfl (World.ownsRow_lit (wr.drewN _) #[] 0 (Nat.le_refl _) (by simp) rfl) _ _ _ ((M.map (Value.int .i64)).drop c) rfl (by simp; try omega) (by intro j u h; rw [List.drop_eq_nil_of_le (by simp; omega)] at h; simp at h) (int_cells M c) (by unfold maxLen; omega) (by omega) (by simp) ?_; intro v2 w2 hown2 hgrow2 hnil; obtain ⟨r, cr, rfl, hr0⟩ := owns_open hown2 (by intro h; have := (hnil.1 h).1; cases this))
                clear hnil
                have hown3 : w2.ownsRow wr.heap.size 3 1 (.slice (some ⟨r, 0, none⟩) 0 cr) 0 ((M.map (Value.int .i64)).drop c) := by simpa using hown2
                clear hown2
                have hO2 := owns_take (owns_block hown ((hgrow2.block g (by simp; omega) (by simp [Value.ownBlock]; omega)).trans (Below.heap_alloc (wr.drewN _) _ g hg1))) hm
                have hb2 := Below.grown ((below_drewN hbel _).alloc hbel.size _) hgrow2 (by have := hbel.size; simp; omega) (fun q hq => by simp [Value.ownBlock] at hq; have := hbel.size; omega)
                clear hgrow2
                have hw2 := (owns_facts hown3).2.1
                have hsz2 := hb2.size
                have hb2a := fun o => (hb2.alloc hsz2 o).drew
                have hgr : g ≠ r := by omega
                have hg2 := (owns_facts hO2).2.1
                have HE := Lib.hid (HN.out.trans (ins_at x M c HLT.out HG.out hm))
                have HV : Hid ((M.take c ++ x :: M.drop c).map (Value.int .i64) = ((M.map (Value.int .i64)).take c ++ [.int .i64 x]) ++ ((M.map (Value.int .i64)).drop c).drop 0) := Lib.hid (by simp [List.map_take, List.map_drop])
                have HLn : Hid ((sortL (L.take (k + 1))).length = c + 1 + 0) := Lib.hid (by rw [HE.out]; simp; have := hml.out; omega)
                go_region_held3 (fun w' => w'.cell? ⟨b, off + k, none⟩ = some (.int .i64 x))
                  (first
                    | exact (hb4.cell (p := ⟨b, off + k, none⟩) hbs).trans hcell
                    | exact (hb3.cell (p := ⟨b, off + k, none⟩) hbs).trans hcell
                    | exact (hb2.cell (p := ⟨b, off + k, none⟩) hbs).trans hcell
                    | exact ((hb2a _).cell (p := ⟨b, off + k, none⟩) hbs).trans hcell
                    | go_keep)
                  (first
                    | (refine step_append_some _ (by rfl) (.tmp 53) (.tmp 58) 22 (by rfl) w.heap.size 3 i0 (Value.int .i64 0) 1 8 Try.underlying22 hi hz0 hz1 hz2 rfl (by decide) (.slice (some ⟨g, 0, none⟩) c c) c ((M.map (Value.int .i64)).take c) (by rfl) (owns_block hO2 (Below.heap_alloc w2 _ g hg2)) ⟨w2.heap.size, 0, none⟩ 1 1 [.int .i64 x] (by rfl) (by rfl) (World.news_of_block (cs := #[.int .i64 x]) (t := 3) (fr := (0, 0)) (heap_alloc_new w2 _)) (by simp [Value.oneCell']) (by omega) (by unfold maxLen; omega) (by omega) (by simp; omega) ?_; intro g1 c1 w1 ho1 hgr1 hat1 hlt1
                       have hb3 := Below.grown (a := w) (B := w.heap.size) (by first | exact hb2.alloc (by omega) _ | exact (hb2.alloc (by omega) _).drew) hgr1 (by simp; omega) (fun q hq => by simp [Value.ownBlock] at hq; omega)
                       have hR1 := owns_block hown3 ((hgr1.block r (by simp; omega) (by simp [Value.ownBlock]; omega)).trans (Below.heap_alloc w2 _ r hw2))
                       have hsz3 := hb3.size
                       have hg1b := (owns_facts ho1).1)
                    | (refine step_append_some _ (by rfl) (.tmp 59) (.tmp 60) 22 (by rfl) w.heap.size 3 i0 (Value.int .i64 0) 1 8 Try.underlying22 hi hz0 hz1 hz2 rfl (by decide) _ _ _ (by rfl) ho1 ⟨r, 0, none⟩ 0 cr (((M.map (Value.int .i64)).drop c).drop 0) (by rfl) (by simp; have := hml.out; omega) (news_of_owns hR1 rfl 0) (int_cells M c) (by omega) (by unfold maxLen; omega) (by omega) (by omega) ?_; intro g2 c2 w4 ho2 hgr2 hat2 hlt2
                       have hb4 := Below.grown (a := w) (B := w.heap.size) (by first | exact hb3 | exact hb3.drew) hgr2 (by first | omega | (simp; omega)) (fun q hq => by simp [Value.ownBlock] at hq; omega)))
                go_wp2_with fail
                go_roundw
                case rel => exact ⟨k + 1, g2, c2, by omega, by go_num, by rw [HLn.out]; try (first | rfl | simp), by rw [HLn.out, HE.out, HV.out]; exact ho2, hb4⟩
                case measure => simp [intOf]; omega
        · obtain rfl : m = 0 := by omega
          go_wp2_with fail
          go_quiet (fail)
          go_wp2_with fail
          go_quiet (fail)
          go_wp2_with (at_builtin; refine wpList_append_own _ rfl (.tmp 46) (.tmp 49) 22 rfl wr.heap.size 3 i0 (Value.int .i64 0) 1 8 Try.underlying22 hi hz0 hz1 hz2 rfl (by decide) (.slice (some ⟨wr.heap.size, 0, none⟩) 0 0) 0 [] rfl (World.ownsRow_lit (wr.drewN _) #[] 0 (Nat.le_refl _) (by simp) rfl) ⟨g, 0, none⟩ M.length c ((M.map (Value.int .i64)).drop 0) rfl (by simp; try omega) (news_of_owns hown (Below.heap_alloc (wr.drewN _) _ g hg1) 0) (int_cells M 0) (by unfold maxLen; omega) (by omega) (by simp) ?_; intro v2 w2 hown2 hgrow2 hnil; obtain ⟨r, cr, rfl, hr0⟩ := owns_open hown2 (by intro h; have := (hnil.1 h).1; cases this))
          clear hnil
          have hown3 : w2.ownsRow wr.heap.size 3 1 (.slice (some ⟨r, 0, none⟩) (M.length) cr) (M.length) ((M.map (Value.int .i64)).drop 0) := by simpa using hown2
          clear hown2
          have hO2 := owns_take (owns_block hown ((hgrow2.block g (by simp; omega) (by simp [Value.ownBlock]; omega)).trans (Below.heap_alloc (wr.drewN _) _ g hg1))) (Nat.zero_le M.length)
          have hb2 := Below.grown ((below_drewN hbel _).alloc hbel.size _) hgrow2 (by have := hbel.size; simp; omega) (fun q hq => by simp [Value.ownBlock] at hq; have := hbel.size; omega)
          clear hgrow2
          have hw2 := (owns_facts hown3).2.1
          have hsz2 := hb2.size
          have hb2a := fun o => (hb2.alloc hsz2 o).drew
          have hgr : g ≠ r := by omega
          have hg2 := (owns_facts hO2).2.1
          have HE := Lib.hid (HN.out.trans (ins_at x M 0 (by simp) HG.out (Nat.zero_le _)))
          have HV : Hid ((M.take 0 ++ x :: M.drop 0).map (Value.int .i64) = ((M.map (Value.int .i64)).take 0 ++ [.int .i64 x]) ++ ((M.map (Value.int .i64)).drop 0).drop 0) := Lib.hid (by simp)
          have HLn : Hid ((sortL (L.take (k + 1))).length = 0 + 1 + (M.length)) := Lib.hid (by rw [HE.out]; simp; try omega)
          go_region_held3 (fun w' => w'.cell? ⟨b, off + k, none⟩ = some (.int .i64 x))
            (first
              | exact (hb4.cell (p := ⟨b, off + k, none⟩) hbs).trans hcell
              | exact (hb3.cell (p := ⟨b, off + k, none⟩) hbs).trans hcell
              | exact (hb2.cell (p := ⟨b, off + k, none⟩) hbs).trans hcell
              | exact ((hb2a _).cell (p := ⟨b, off + k, none⟩) hbs).trans hcell
              | go_keep)
            (first
              | (refine step_append_some _ (by rfl) (.tmp 53) (.tmp 58) 22 (by rfl) w.heap.size 3 i0 (Value.int .i64 0) 1 8 Try.underlying22 hi hz0 hz1 hz2 rfl (by decide) (.slice (some ⟨g, 0, none⟩) 0 c) 0 ((M.map (Value.int .i64)).take 0) (by rfl) (owns_block hO2 (Below.heap_alloc w2 _ g hg2)) ⟨w2.heap.size, 0, none⟩ 1 1 [.int .i64 x] (by rfl) (by rfl) (World.news_of_block (cs := #[.int .i64 x]) (t := 3) (fr := (0, 0)) (heap_alloc_new w2 _)) (by simp [Value.oneCell']) (by omega) (by unfold maxLen; omega) (by omega) (by simp; omega) ?_; intro g1 c1 w1 ho1 hgr1 hat1 hlt1
                 have hb3 := Below.grown (a := w) (B := w.heap.size) (by first | exact hb2.alloc (by omega) _ | exact (hb2.alloc (by omega) _).drew) hgr1 (by simp; omega) (fun q hq => by simp [Value.ownBlock] at hq; omega)
                 have hR1 := owns_block hown3 ((hgr1.block r (by simp; omega) (by simp [Value.ownBlock]; omega)).trans (Below.heap_alloc w2 _ r hw2))
                 have hsz3 := hb3.size
                 have hg1b := (owns_facts ho1).1)
              | (refine step_append_some _ (by rfl) (.tmp 59) (.tmp 60) 22 (by rfl) w.heap.size 3 i0 (Value.int .i64 0) 1 8 Try.underlying22 hi hz0 hz1 hz2 rfl (by decide) _ _ _ (by rfl) ho1 ⟨r, 0, none⟩ (M.length) cr (((M.map (Value.int .i64)).drop 0).drop 0) (by rfl) (by simp) (news_of_owns hR1 rfl 0) (int_cells M 0) (by omega) (by unfold maxLen; omega) (by omega) (by omega) ?_; intro g2 c2 w4 ho2 hgr2 hat2 hlt2
                 have hb4 := Below.grown (a := w) (B := w.heap.size) (by first | exact hb3 | exact hb3.drew) hgr2 (by first | omega | (simp; omega)) (fun q hq => by simp [Value.ownBlock] at hq; omega)))
          go_wp2_with fail
          go_roundw
          case rel => exact ⟨k + 1, g2, c2, by omega, by go_num, by rw [HLn.out]; try (first | rfl | simp), by rw [HLn.out, HE.out, HV.out]; exact ho2, hb4⟩
          case measure => simp [intOf]; omega
    · obtain rfl : k = L.length := by omega
      have HT := Lib.hid (List.take_of_length_le (Nat.le_refl L.length))
      clear hr
      go_wp2_with fail
      go_ret
      rw [HT.out] at hown
      exact ⟨g, c, by rw [HT.out]; rfl, hown, hbel⟩
end Go.Proofs.Ytnbnkjmellmmlaa

/-
  CONTRACTS of the reference's l2All, SharedOf, SumsOf.
-/
namespace Go.Proofs.Ytnbnkjmellmmlaa
open Go Go.RowKit

/-- A call made a list of ints. -/
def ListPost (M : List Int) (w : World) (e : Ending) (w' : World) : Prop :=
  ∃ g cap, e = .returned (.slice (some ⟨g, 0, none⟩) M.length cap) ∧ w'.ownsRow w.heap.size 3 1 (.slice (some ⟨g, 0, none⟩) M.length cap) M.length (M.map (Value.int .i64)) ∧ Below w.heap.size w w'

def allB (L : List Int) : Bool := L.all small && decide (L.length ≤ 300)


/-- The result of a sorting of a list that the call itself owns. -/
theorem sort_of_owns {W w : World} {base : Nat} {M : List Int} {v : Value} (ho : w.ownsRow base 3 1 v M.length (M.map (Value.int .i64))) (hbel : Below W.heap.size W w) (hm : M.length ≤ 1048576) :
    Calls Try.prog 74 #[v] w fun e w' => ∃ u, e = .returned u ∧ ListPost (sortL M) W e w' := by
  obtain ⟨a, cap, rfl, -, -, hs, -⟩ := SlV.of_owns ho
  refine (spec_SortList M a cap w hs hm).mono ?_
  rintro e w' ⟨g, c, rfl, ho', hb'⟩
  exact ⟨_, rfl, g, c, rfl, owns_base ho' (Nat.le_trans hbel.size (owns_facts ho').1), hbel.trans (hb'.mono hbel.size)⟩

def shared (A B : List Int) : List Int := sortL (A.filter (hasB B))

end Go.Proofs.Ytnbnkjmellmmlaa

/-
  CONTRACT of the reference's SumsOf.
-/
namespace Go.Proofs.Ytnbnkjmellmmlaa
open Go Go.RowKit

def allSums (A B : List Int) : List Int := A.flatMap fun x => B.map fun y => x + y
def sums (A B : List Int) : List Int := if allB A && allB B then sortL (allSums A B) else []
theorem sums_in {A B : List Int} (ha : allB A = true) (hb : allB B = true) : sums A B = sortL (allSums A B) := by simp [sums, ha, hb]
theorem sums_out {A B : List Int} (h : allB A = false ∨ allB B = false) : sums A B = [] := by
  unfold sums
  rcases h with h | h <;> simp [h]
theorem allB_iff {L : List Int} (h : allB L = true) : L.length ≤ 300 ∧ ∀ x ∈ L, -1000000 ≤ x ∧ x ≤ 1000000 := by
  unfold allB at h
  rw [Bool.and_eq_true, List.all_eq_true, decide_eq_true_eq] at h
  exact ⟨h.2, fun x hx => small_iff.1 (h.1 x hx)⟩

theorem post_nil (w : World) : ∃ g cap, (Ending.returned (.slice (some ⟨w.heap.size, 0, none⟩) 0 0)) = .returned (.slice (some ⟨g, 0, none⟩) ([] : List Int).length cap) ∧
    (w.alloc (.cells #[] 3)).ownsRow w.heap.size 3 1 (.slice (some ⟨g, 0, none⟩) ([] : List Int).length cap) ([] : List Int).length (([] : List Int).map (Value.int .i64)) ∧ Below w.heap.size w (w.alloc (.cells #[] 3)) :=
  ⟨w.heap.size, 0, rfl, World.ownsRow_lit w #[] 0 (Nat.le_refl _) (by simp) rfl, (Below.refl _ _).alloc (Nat.le_refl _) _⟩

end Go.Proofs.Ytnbnkjmellmmlaa

/-
  PLAIN LEMMAS: what slices.Compact leaves of a list that slices.SortFunc has sorted: the ascending list of its members.
-/
namespace Go.Proofs.Ytnbnkjmellmmlaa
open Go Go.Lib Go.Sort

theorem asc_snoc {C : List Int} {x : Int} (h : Asc C) (hx : ∀ y ∈ C, y < x) : Asc (C ++ [x]) := by
  intro i j hj hij
  rw [List.length_append, List.length_singleton] at hj
  rcases Nat.lt_or_ge j C.length with h1 | h1
  · rw [List.getElem_append_left (by omega), List.getElem_append_left h1]; exact h i j h1 hij
  · have : j = C.length := by omega
    subst this
    rw [List.getElem_append_left (by omega), List.getElem_append_right (by omega)]
    simpa using hx _ (List.getElem_mem (by omega))

theorem compact_spec (d : Array Int) (hs : ∀ i j, i ≤ j → j < d.size → d[i]! ≤ d[j]!) : ∀ m, m ≤ d.size → Asc (compactUpTo d m) ∧ ∀ x, x ∈ compactUpTo d m ↔ ∃ j, j < m ∧ d[j]! = x
  | 0, _ => ⟨by simpa [compactUpTo] using Asc.nil, fun x => by simp [compactUpTo]⟩
  | m + 1, hm => by
    obtain ⟨h1, h2⟩ := compact_spec d hs m (by omega)
    rw [compactUpTo_succ]
    by_cases hk : keeps d m = true
    · rw [if_pos hk]
      refine ⟨asc_snoc h1 fun y hy => ?_, fun x => ?_⟩
      · obtain ⟨j, hj, rfl⟩ := (h2 y).1 hy
        have h3 : d[m]! ≠ d[m - 1]! := by
          have := hk
          unfold keeps at this
          rw [decide_eq_true_eq] at this
          rcases this with e | e
          · omega
          · exact e
        have h4 := hs j (m - 1) (by omega) (by omega)
        have h5 := hs (m - 1) m (by omega) (by omega)
        omega
      · rw [List.mem_append, h2, List.mem_singleton]
        constructor
        · rintro (⟨j, hj, e⟩ | e)
          · exact ⟨j, by omega, e⟩
          · exact ⟨m, by omega, e.symm⟩
        · rintro ⟨j, hj, e⟩
          rcases Nat.lt_or_ge j m with h | h
          · exact .inl ⟨j, h, e⟩
          · have : j = m := by omega
            subst this
            exact .inr e.symm
    · rw [if_neg hk, List.append_nil]
      refine ⟨h1, fun x => ?_⟩
      have hm0 : m ≠ 0 ∧ d[m]! = d[m - 1]! := by
        have := hk
        unfold keeps at this
        rw [decide_eq_true_eq] at this
        exact ⟨fun e => this (.inl e), Classical.not_not.1 fun e => this (.inr e)⟩
      rw [h2]
      constructor
      · rintro ⟨j, hj, e⟩; exact ⟨j, by omega, e⟩
      · rintro ⟨j, hj, e⟩
        rcases Nat.lt_or_ge j m with h | h
        · exact ⟨j, h, e⟩
        · have : j = m := by omega
          subst this
          exact ⟨j - 1, by omega, by rw [← hm0.2]; exact e⟩

theorem ltC (x y : Int) : ltOf Lib.compareInt x y = decide (x < y) := by
  unfold ltOf Lib.compareInt
  by_cases h1 : x < y
  · simp [h1]
  · by_cases h2 : y < x <;> simp [h1, h2]
theorem swoC : SWO (ltOf Lib.compareInt) where
  irrefl x := by rw [ltC]; simp
  trans x y z h1 h2 := by rw [ltC] at *; simp at *; omega
  ntrans x y z h1 h2 := by rw [ltC] at *; simp at *; omega
theorem totC (x y : Int) (h1 : ltOf Lib.compareInt x y = false) (h2 : ltOf Lib.compareInt y x = false) : x = y := by rw [ltC] at *; simp at *; omega
theorem leC : (fun x y : Int => !ltOf Lib.compareInt y x) = fun x y => decide (x ≤ y) := by
  funext x y
  rw [ltC]
  by_cases h : x ≤ y
  · have h' : ¬ y < x := by omega
    simp [h, h']
  · have h' : y < x := by omega
    simp [h, h']

theorem compact_sorted (L : List Int) : compact (L.mergeSort fun x y => decide (x ≤ y)) = sortL L := by
  have hp : (L.mergeSort fun x y => decide (x ≤ y)).Pairwise (fun a b => (decide (a ≤ b)) = true) :=
    List.pairwise_mergeSort (fun a b c h1 h2 => by simp at *; omega) (fun a b => by simp; omega) L
  have hperm := List.mergeSort_perm L (fun x y => decide (x ≤ y))
  generalize hS : (L.mergeSort fun x y => decide (x ≤ y)) = S at *
  have hs : ∀ i j, i ≤ j → j < S.toArray.size → S.toArray[i]! ≤ S.toArray[j]! := by
    intro i j hij hj
    have hj' : j < S.length := by simpa using hj
    rw [getElem!_pos _ i (by simp; omega), getElem!_pos _ j hj]
    simp only [List.getElem_toArray]
    rcases Nat.lt_or_ge i j with h | h
    · have := List.pairwise_iff_getElem.1 hp i j (by omega) hj' h
      simpa using this
    · have : i = j := by omega
      subst this
      exact Int.le_refl _
  obtain ⟨h1, h2⟩ := compact_spec S.toArray hs S.length (by simp)
  refine sortL_eq h1 fun x => ?_
  rw [show compact S = compactUpTo S.toArray S.length from rfl] at *
  rw [h2]
  constructor
  · rintro ⟨j, hj, e⟩
    rw [getElem!_pos _ j (by simpa using hj)] at e
    simp only [List.getElem_toArray] at e
    rw [← e]
    exact hperm.mem_iff.1 (List.getElem_mem hj)
  · intro hx
    obtain ⟨j, hj, e⟩ := List.getElem_of_mem (hperm.mem_iff.2 hx)
    exact ⟨j, hj, by rw [getElem!_pos _ j (by simpa using hj)]; simpa using e⟩
end Go.Proofs.Ytnbnkjmellmmlaa

/-
  CONTRACTS of the program's chapter 2, first half: isWithinMax, magnitude, GcdOf, GcdOfList, IsAscending, areSummands.
-/
namespace Go.Proofs.Ytnbnkjmellmmlaa
open Go Go.RowKit

set_option maxRecDepth 100000 in
theorem impl_isWithinMax (x : Int) (w : World) : Calls Try.prog 81 #[.int .i64 x] w fun e w' => e = .returned (.bool (small x)) ∧ w' = w := by
  rw [small_in]
  by_cases h0 : -1000000 ≤ x
  · by_cases h1 : x ≤ 1000000
    · rw [inB_mk h0 h1]
      go_enter Try.func81, Try.ntmps81
      go_wp2_with fail
      go_ret
      exact ⟨rfl, rfl⟩
    · rw [inB_no (by omega)]
      have h1' : ¬ x ≤ 1000000 := h1
      go_enter Try.func81, Try.ntmps81
      go_wp2_with fail
      go_ret
      exact ⟨rfl, rfl⟩
  · rw [inB_no (by omega)]
    go_enter Try.func81, Try.ntmps81
    go_wp2_with fail
    go_ret
    exact ⟨rfl, rfl⟩

theorem impl_magnitude (x : Int) (h0 : -1000000 ≤ x) (h1 : x ≤ 1000000) (w : World) : Calls Try.prog 82 #[.int .i64 x] w fun e w' => e = .returned (.int .i64 (x.natAbs : Int)) ∧ w' = w := by
  by_cases h : x < 0
  · obtain ⟨n, hn⟩ := Int.eq_ofNat_of_zero_le (show 0 ≤ -x by omega)
    obtain rfl : x = -(n : Int) := by omega
    go_enter Try.func82, Try.ntmps82
    go_wp2_with fail
    go_ret
    exact ⟨by first | (simp; done) | (simp; rfl), rfl⟩
  · obtain ⟨n, rfl⟩ := Int.eq_ofNat_of_zero_le (show 0 ≤ x by omega)
    go_enter Try.func82, Try.ntmps82
    go_wp2_with fail
    go_ret
    exact ⟨by first | (simp; done) | (simp; rfl), rfl⟩

theorem gcd_step0 (m n : Nat) : Nat.gcd (n % m) m = Nat.gcd m n := (Nat.gcd_rec m n).symm

set_option maxRecDepth 100000 in
set_option maxHeartbeats 400000 in
theorem impl_GcdOf (a b : Int) (w : World) : Calls Try.prog 73 #[.int .i64 a, .int .i64 b] w fun e w' => e = .returned (.int .i64 (gcdOf a b)) ∧ Below w.heap.size w w' := by
  have ca := fun w => impl_isWithinMax a w
  have cb := fun w => impl_isWithinMax b w
  cases hsa : small a
  · rw [gcdOf_out (.inl hsa)]
    rw [hsa] at ca
    clear hsa cb
    go_enter Try.func73, Try.ntmps73
    go_wp2_with fail
    refine (ca _).mono ?_
    rintro e w' ⟨rfl, rfl⟩
    go_wp2_with fail
    go_ret
    exact ⟨rfl, Below.refl _ _⟩
  · cases hsb : small b
    · rw [gcdOf_out (.inr hsb)]
      rw [hsa] at ca
      rw [hsb] at cb
      clear hsa hsb
      go_enter Try.func73, Try.ntmps73
      go_wp2_with fail
      refine (ca _).mono ?_
      rintro e w' ⟨rfl, rfl⟩
      go_wp2_with fail
      refine (cb _).mono ?_
      rintro e w' ⟨rfl, rfl⟩
      go_wp2_with fail
      go_ret
      exact ⟨rfl, Below.refl _ _⟩
    · rw [gcdOf_in hsa hsb]
      obtain ⟨a0, a1⟩ := small_iff.1 hsa
      obtain ⟨b0, b1⟩ := small_iff.1 hsb
      have ma := fun w => impl_magnitude a a0 a1 w
      have mb := fun w => impl_magnitude b b0 b1 w
      have na : a.natAbs ≤ 1000000 := by omega
      have nb : b.natAbs ≤ 1000000 := by omega
      rw [hsa] at ca
      rw [hsb] at cb
      clear hsa hsb
      generalize a.natAbs = p at *
      generalize b.natAbs = q at *
      go_enter Try.func73, Try.ntmps73
      go_wp2_with fail
      refine (ca _).mono ?_
      rintro e w' ⟨rfl, rfl⟩
      go_wp2_with fail
      refine (cb _).mono ?_
      rintro e w' ⟨rfl, rfl⟩
      go_wp2_with fail
      refine (ma _).mono ?_
      rintro e w' ⟨rfl, rfl⟩
      go_wp2_with fail
      refine (mb _).mono ?_
      rintro e w' ⟨rfl, rfl⟩
      clear ca cb ma mb a0 a1 b0 b1
      go_wp2_with fail
      go_loopw [0, 1] (fun x y wr => ∃ m n : Nat, m ≤ 1000000 ∧ n ≤ 1000000 ∧ x = .int .i64 (m : Int) ∧ y = .int .i64 (n : Int) ∧ Nat.gcd m n = Nat.gcd p q ∧ Below w'.heap.size w' wr) (fun x _ _ => (intOf x).toNat)
      case atStart => exact ⟨p, q, na, nb, rfl, rfl, rfl, Below.refl _ _⟩
      case round =>
        obtain ⟨m, n, hm, hn, rfl, rfl, hg, hbel⟩ := hrel
        have HG := Lib.hid hg
        clear hg
        by_cases h0 : m = 0
        · subst h0
          go_wp2_with fail
          go_ret
          exact ⟨by rw [← HG.out, Nat.gcd_zero_left]; rfl, hbel⟩
        · have hp : 0 < m := by omega
          have hp2 : 1 ≤ m := hp
          have hne : ((m : Int) != 0) = true := by simp; omega
          go_wp2_with fail
          go_roundw
          case rel => exact ⟨n % m, m, by have := Nat.mod_lt n hp; omega, hm, by go_num, rfl, by rw [gcd_step0]; exact HG.out, by first | exact hbel | exact below_drewN hbel _⟩
          case measure => simp [intOf]; have := Nat.mod_lt n hp; omega
end Go.Proofs.Ytnbnkjmellmmlaa

/-
  CONTRACTS of the program's GcdOfList, areSummands.
-/
namespace Go.Proofs.Ytnbnkjmellmmlaa
open Go Go.RowKit

set_option maxRecDepth 100000 in
set_option maxHeartbeats 400000 in
theorem impl_GcdOfList (L : List Int) (a : Option Addr) (cap : Nat) (w : World) (hr : SlV w a (L.map (Value.int .i64))) (hb : L.length ≤ maxLen) :
    Calls Try.prog 53 #[.slice a L.length cap] w fun e w' => e = .returned (.int .i64 (gcdL L)) ∧ Below w.heap.size w w' := by
  unfold maxLen at hb
  go_enter Try.func53, Try.ntmps53
  go_wp2_with fail
  go_loopw [3, 8] (fun o i wr => ∃ k : Nat, k ≤ L.length ∧ i = .int .i64 (k : Int) ∧ o = .int .i64 (gcdL (L.take k)) ∧ Below w.heap.size w wr) (fun _ i _ => L.length - (intOf i).toNat)
  case atStart => exact ⟨0, Nat.zero_le _, rfl, rfl, Below.refl _ _⟩
  case round =>
    obtain ⟨k, hk, rfl, rfl, hbel⟩ := hrel
    by_cases hlt : k < L.length
    · obtain ⟨b, off, rfl, hbs, hc⟩ := hr.open (by intro h; rw [List.map_eq_nil_iff] at h; subst h; simp at hlt)
      have hcell : wr.cell? ⟨b, off + k, none⟩ = some (.int .i64 L[k]) := by rw [hbel.cell (p := ⟨b, off + k, none⟩) hbs]; exact hc k _ (by simp [hlt])
      have HG := Lib.hid (gcdL_take L k hlt)
      have cg := impl_GcdOf (gcdL (L.take k)) L[k] wr
      clear hc hr
      generalize L[k] = x at *
      go_wp2_with fail
      refine cg.mono ?_
      rintro e w' ⟨rfl, hb'⟩
      have hb2 := hbel.trans (hb'.mono hbel.size)
      clear cg hcell hb'
      go_wp2_with fail
      go_roundw
      case rel => exact ⟨k + 1, by omega, by go_num, by rw [HG.out], hb2⟩
      case measure => simp [intOf]; omega
    · obtain rfl : k = L.length := by omega
      have HT := Lib.hid (List.take_of_length_le (Nat.le_refl L.length))
      clear hr
      go_wp2_with fail
      go_ret
      exact ⟨by rw [← HT.out]; simp, hbel⟩


end Go.Proofs.Ytnbnkjmellmmlaa

/-
  CONTRACTS of the program's IsAscending.
-/
namespace Go.Proofs.Ytnbnkjmellmmlaa
open Go Go.RowKit

set_option maxRecDepth 100000 in
set_option maxHeartbeats 400000 in
theorem impl_IsAscending (L : List Int) (a : Option Addr) (cap : Nat) (w : World) (hr : SlV w a (L.map (Value.int .i64))) (hb : L.length ≤ maxLen) :
    Calls Try.prog 75 #[.slice a L.length cap] w fun e w' => e = .returned (.bool (ascB L)) ∧ Below w.heap.size w w' := by
  unfold maxLen at hb
  go_enter Try.func75, Try.ntmps75
  go_wp2_with fail
  go_loopw [3] (fun i wr => ∃ k : Nat, (k ≤ L.length ∨ k = 1) ∧ 1 ≤ k ∧ i = .int .i64 (k : Int) ∧ (∀ (j : Nat) (hj : j + 1 < L.length), j + 1 < k → L[j] < L[j + 1]) ∧ Below w.heap.size w wr) (fun i _ => L.length - (intOf i).toNat)
  case atStart => exact ⟨1, .inr rfl, Nat.le_refl _, rfl, fun j hj h => by omega, Below.refl _ _⟩
  case round =>
    obtain ⟨k, hk, hk1, rfl, hasc, hbel⟩ := hrel
    have HA := Lib.hid hasc
    clear hasc
    by_cases hlt : k < L.length
    · obtain ⟨b, off, rfl, hbs, hc⟩ := hr.open (by intro h; rw [List.map_eq_nil_iff] at h; subst h; simp at hlt)
      have hk' : k - 1 < L.length := by omega
      have hcell : wr.cell? ⟨b, off + k, none⟩ = some (.int .i64 L[k]) := by rw [hbel.cell (p := ⟨b, off + k, none⟩) hbs]; exact hc k _ (by simp [hlt])
      have hcell2 : wr.cell? ⟨b, off + (k - 1), none⟩ = some (.int .i64 L[k - 1]) := by rw [hbel.cell (p := ⟨b, off + (k - 1), none⟩) hbs]; exact hc (k - 1) _ (by simp [hk'])
      have hx0 : (0 : Int) ≤ (k : Int) := by omega
      have hx1 : (k : Int) < (L.length : Int) := by omega
      have hx2 : (0 : Int) ≤ (k : Int) - 1 := by omega
      have hx3 : (k : Int) - 1 < (L.length : Int) := by omega
      have hw1 : IntKind.i64.wrap ((k : Int) - 1) = (k : Int) - 1 := IntWalk.i64_in _ (by omega)
      have ht1 : ((k : Int) - 1).toNat = k - 1 := by omega
      clear hc hr
      by_cases hle : L[k] ≤ L[k - 1]
      · have HR := Lib.hid (ascB_false (L := L) (by
          intro h
          have h1 := h (k - 1) (by omega)
          have e : L[k - 1 + 1] = L[k] := by congr 1; omega
          omega))
        have hq : decide (L[k] ≤ L[k - 1]) = true := decide_eq_true hle
        generalize L[k] = x at *
        generalize L[k - 1] = y at *
        go_wp2_with fail
        go_quiet (fail)
        go_wp2_with fail
        go_ret
        exact ⟨by rw [HR.out]; rfl, by first | exact hbel | exact below_drewN hbel _⟩
      · have hq : decide (L[k] ≤ L[k - 1]) = false := decide_eq_false hle
        have HL := Lib.hid hle
        clear hle
        have HS : Hid (∀ (j : Nat) (hj : j + 1 < L.length), j + 1 < k + 1 → L[j] < L[j + 1]) := Lib.hid (fun j hj h => by
          by_cases e : j + 1 < k
          · exact HA.out j hj e
          · obtain rfl : k = j + 1 := by omega
            have := HL.out
            have e2 : L[j + 1 - 1] = L[j] := by congr 1
            omega)
        generalize L[k] = x at *
        generalize L[k - 1] = y at *
        go_wp2_with fail
        go_quiet (fail)
        go_wp2_with fail
        go_roundw
        case rel => exact ⟨k + 1, .inl (by omega), by omega, by go_num, HS.out, by first | exact hbel | exact below_drewN hbel _⟩
        case measure => simp [intOf]; omega
    · have HR := Lib.hid (ascB_true (L := L) (fun j hj => HA.out j hj (by omega)))
      clear hr
      go_wp2_with fail
      go_ret
      exact ⟨by rw [HR.out]; rfl, hbel⟩
end Go.Proofs.Ytnbnkjmellmmlaa

/-
  CONTRACTS of the program's sortOnce and SortList: slices.SortFunc and slices.Compact over a row of the call's own.
-/
namespace Go.Proofs.Ytnbnkjmellmmlaa
open Go Go.RowKit Go.Sort

theorem cmpReadsC (blk off size : Nat) (w : World) : CmpReads Try.prog 85 #[] (Value.int .i64) Lib.compareInt blk off size w :=
  fun _ _ _ _ x y => (Try.cmp_Compare_int x y _).mono fun _ _ ⟨he, hw⟩ => ⟨he, 0, hw⟩

theorem owns_grow {w : World} {base : Nat} {e : TypeId} {v : Value} {n : Nat} {xs : List Value} (os : Array Obj) (h : w.ownsRow base e 1 v n xs) : (grow w os).ownsRow base e 1 v n xs :=
  row_kept h fun j hj => heap_grow_old w os (h.lt j hj).2
theorem below_growB {B : Nat} {a w : World} (os : Array Obj) (h : Below B a w) (hB : B ≤ w.heap.size) : Below B a (grow w os) :=
  h.trans ⟨rfl, rfl, rfl, by simp, fun k hk => heap_grow_old w os (by omega)⟩

set_option maxRecDepth 100000 in
set_option maxHeartbeats 1000000 in
theorem impl_sortOnce (base : Nat) (L : List Int) (v : Value) (w : World) (ho : w.ownsRow base 3 1 v L.length (L.map (Value.int .i64))) (hl : L.length ≤ 4611686018427387903) (hbase : base ≤ w.heap.size) :
    Calls Try.prog 78 #[v] w fun e w' => ∃ u, e = .returned u ∧ w'.ownsRow base 3 1 u (sortL L).length ((sortL L).map (Value.int .i64)) ∧ Below base w w' := by
  have eg : ∀ args w, (callFunc 85 args).run Try.prog w = .ok (.enter 85 args) w := enters_of Try.func85 (by kernel_rfl) rfl
  by_cases hv : v = .slice none 0 0
  · subst hv
    have hL : L = [] := by
      have h1 := ho.1
      rcases ho.2 with ⟨-, h2⟩ | ⟨g, cap, cur, e, -⟩
      · exact List.eq_nil_of_length_eq_zero h2
      · cases e
    subst hL
    have c1 := fun W => Try.slices_SortFunc_none (α := Int) none 0 (.func (.func 85) #[] #[]) W
    have c2 := fun W => Try.slices_Compact_int_empty none 0 W
    clear ho hl
    go_enter Try.func78, Try.ntmps78
    go_wp2_with fail
    refine (c1 _).mono ?_
    rintro e w1 ⟨rfl, rfl⟩
    go_wp2_with fail
    refine (c2 _).mono ?_
    rintro e w2 ⟨rfl, rfl⟩
    go_wp2_with fail
    go_ret
    exact ⟨_, rfl, World.ownsRow_nil _ _ _ _, Below.refl _ _⟩
  · obtain ⟨g, cap, rfl, hg, hlt, hnc, hcm, -, hH⟩ := Lib.holds_of_ownsRow ho hv
    have hS := Try.slices_SortFunc_total (Value.int .i64) (fun _ => rfl) Lib.compareInt swoC 85 #[] g 0 cap L.toArray w eg (cmpReadsC g 0 L.toArray.size w).lays hH hlt (by simp; omega) totC
    rw [leC, List.size_toArray] at hS
    have hperm := List.mergeSort_perm L (fun x y => decide (x ≤ y))
    have hML : (L.mergeSort fun x y => decide (x ≤ y)).length = L.length := hperm.length_eq
    have HC := Lib.hid (compact_sorted L)
    have HO := Lib.hid ho
    generalize (L.mergeSort fun x y => decide (x ≤ y)) = S at *
    clear ho hv hperm hH
    go_enter Try.func78, Try.ntmps78
    go_wp2_with fail
    refine hS.mono ?_
    rintro e w1 ⟨rfl, n, os, hw1⟩
    have ho1 : w1.ownsRow base 3 1 (.slice (some ⟨g, 0, none⟩) L.length cap) L.length (S.map (Value.int .i64)) := by
      rw [hw1]
      have := Lib.ownsRow_putRow (q := n) (k := L.length) HO.out hML (Nat.le_refl _)
      rw [List.take_of_length_le (by omega)] at this
      exact owns_grow os this
    have hb1 : Below base w w1 := by
      rw [hw1]
      exact below_growB os (Lib.below_putRow (Below.refl _ _) hg) (by simp; omega)
    have HO1 := Lib.hid ho1
    obtain ⟨g', cap', e', -, hlt1, -, -, -, hH1⟩ := Lib.holds_of_ownsRow ho1 (by intro h; cases h)
    cases e'
    have c2 := Try.slices_Compact_int g 0 cap S w1 hH1 (by omega) (by omega)
    rw [hML, HC.out] at c2
    have hlen := sortL_length_le L
    clear hS hw1 ho1 hH1
    go_wp2_with fail
    refine c2.mono ?_
    rintro e w2 ⟨rfl, q, hw2⟩
    have ho2 : w2.ownsRow base 3 1 (.slice (some ⟨g, 0, none⟩) (sortL L).length cap) (sortL L).length ((sortL L).map (Value.int .i64)) := by
      rw [hw2]
      have := Lib.ownsRow_putRow (q := q) (k := (sortL L).length) (ys := sortL L ++ List.replicate (L.length - (sortL L).length) 0) HO1.out (by simp; omega) hlen
      rw [List.take_left] at this
      exact this
    have hb2 : Below base w w2 := by
      rw [hw2]
      exact Lib.below_putRow hb1 hg
    clear hw2 c2 HO1
    have HO2 := Lib.hid ho2
    clear ho2
    go_wp2_with fail
    go_ret
    exact ⟨_, rfl, HO2.out, hb2⟩

set_option maxRecDepth 100000 in
set_option maxHeartbeats 1000000 in
theorem impl_SortList (L : List Int) (a : Option Addr) (c : Nat) (w : World) (hr : SlW w a c (L.map (Value.int .i64))) (hb : L.length ≤ 1048576) :
    Calls Try.prog 64 #[.slice a L.length c] w (SlPost (sortL L) w) := by
  obtain ⟨i0, hi, hz0, hz1, hz2⟩ := info_parts infoIntL
  obtain ⟨hs, hn0, hle, hmx⟩ := hr
  have hnil : w.ownsRow w.heap.size 3 1 (.slice none 0 0) 0 [] := World.ownsRow_nil _ _ _ _
  cases a with
  | none =>
    obtain rfl : c = 0 := hn0 rfl
    obtain rfl : L = [] := List.eq_nil_of_length_eq_zero (by simpa using hle)
    have cs := impl_sortOnce w.heap.size [] (.slice none 0 0) w hnil (by simp) (Nat.le_refl _)
    clear hs hn0 hle hmx hb
    go_enter Try.func64, Try.ntmps64
    go_wp2_with (at_builtin; refine wpList_append_own_none rfl _ _ 22 rfl w.heap.size 3 i0 1 Try.underlying22 hi _ _ _ rfl hnil rfl ?_)
    go_wp2_with fail
    refine cs.mono ?_
    rintro e w' ⟨u, rfl, ho, hb⟩
    have HO := Lib.hid ho
    clear ho cs
    go_wp2_with fail
    go_ret
    exact ⟨u, rfl, HO.out, hb⟩
  | some ad =>
    have hcells : ∀ (j : Nat) (u : Value), (L.map (Value.int .i64))[j]? = some u → w.cell? (ad.add j) = some u := by
      intro j u hj
      rcases hs with h | ⟨b, off, e, hlt, hc⟩
      · rw [h] at hj; simp at hj
      · cases e
        have hadd : (⟨b, off, none⟩ : Addr).add j = ⟨b, off + j, none⟩ := by unfold Addr.add; split <;> simp_all
        rw [hadd]; exact hc j u hj
    have h1 : ∀ u ∈ L.map (Value.int .i64), u.oneCell' = true := by
      intro u hu
      obtain ⟨x, -, rfl⟩ := List.mem_map.1 hu
      rfl
    clear hs hn0
    have hl1 : (L.map (Value.int .i64)).length = L.length * 1 := by simp
    go_enter Try.func64, Try.ntmps64
    go_wp2_with (at_builtin; refine wpList_append_own _ rfl _ _ 22 rfl w.heap.size 3 i0 (Value.int .i64 0) 1 8 Try.underlying22 hi hz0 hz1 hz2 rfl (by decide) (.slice none 0 0) 0 [] rfl hnil ad L.length c (L.map (Value.int .i64)) rfl hl1 hcells h1 (by unfold maxLen; omega) (by omega) (Nat.le_refl _) ?_; intro v1 w1 ho1 hg1 _)
    rw [Nat.zero_add, List.nil_append] at ho1
    have hb1 : Below w.heap.size w w1 := (Below.refl _ _).grown hg1 (Nat.le_refl _) (fun k hk => by simp [Value.ownBlock] at hk)
    have cs := impl_sortOnce w.heap.size L v1 w1 ho1 (by omega) hb1.size
    clear ho1 hg1 hcells h1 hnil
    go_wp2_with fail
    refine cs.mono ?_
    rintro e w' ⟨u, rfl, ho, hb2⟩
    have HO := Lib.hid ho
    have hb3 := hb1.trans hb2
    clear ho cs
    go_wp2_with fail
    go_ret
    exact ⟨u, rfl, HO.out, hb3⟩
end Go.Proofs.Ytnbnkjmellmmlaa

/-
  CONTRACTS of the program's SharedOf, SumsOf.
-/
namespace Go.Proofs.Ytnbnkjmellmmlaa
open Go Go.RowKit

theorem shared_filter (A B : List Int) : (sortL A).filter (hasB (sortL B)) = shared A B := by
  unfold shared
  refine sortL_eq ?_ fun x => ?_
  · intro i j hj hij
    have h1 : ((sortL A).filter (hasB (sortL B))).Pairwise (· < ·) := by
      refine List.Pairwise.filter _ ?_
      rw [List.pairwise_iff_getElem]
      intro i j hi hj hij
      exact (sortL_spec A).1 i j hj hij
    exact List.pairwise_iff_getElem.1 h1 i j _ hj hij
  · have hm : ∀ y, hasB (sortL B) y = hasB B y := fun y => by
      unfold hasB
      rw [Bool.eq_iff_iff, decide_eq_true_eq, decide_eq_true_eq]
      exact (sortL_spec B).2 y
    rw [List.mem_filter, List.mem_filter, (sortL_spec A).2, hm]

theorem shared_length_le (A B : List Int) : (shared A B).length ≤ A.length := by
  unfold shared
  exact Nat.le_trans (sortL_length_le _) (List.length_filter_le _ _)

theorem hasB_contains' (L : List Int) (n : Int) : L.contains n = hasB L n := by
  unfold hasB
  rw [Bool.eq_iff_iff, List.contains_iff_mem, decide_eq_true_eq]



end Go.Proofs.Ytnbnkjmellmmlaa

/-
  CONTRACTS of the reference's ListText and ParseList.
-/
namespace Go.Proofs.Ytnbnkjmellmmlaa
open Go Go.RowKit

def numeral (n : Int) : ByteArray := ⟨(Lib.itoa n).toArray⟩
def noneB : ByteArray := ⟨#[110, 111, 110, 101]⟩
/-- The text of a list. -/
def listText (L : List Int) : ByteArray := if L = [] then noneB else ⟨(Lib.join (L.map Lib.itoa) [44]).toArray⟩
theorem listText_cons {L : List Int} (h : L ≠ []) : listText L = ⟨(Lib.join (L.map Lib.itoa) [44]).toArray⟩ := by unfold listText; rw [if_neg h]

theorem infoStrL : (Try.prog.info? 9).map (fun i => (i.zero, i.size, i.bytes)) = some (some (Value.string ByteArray.empty), 1, 16) := by kernel_rfl

theorem int_bounds_of (L : List Int) (h : ∀ x ∈ L, -9223372036854775808 ≤ x ∧ x ≤ 9223372036854775807) (k : Nat) (hk : k < L.length) : -9223372036854775808 ≤ L[k] ∧ L[k] ≤ 9223372036854775807 := h _ (List.getElem_mem hk)


/-- What ParseList reads: every part a numeral within bounds. -/
noncomputable def readAll : List (List UInt8) → Option (List Int)
  | [] => some []
  | p :: r => match readOf p (-999999999999) 999999999999 with
    | none => none
    | some n => (readAll r).map (n :: ·)
theorem readAll_append (P Q : List (List UInt8)) (N : List Int) (h : readAll P = some N) : readAll (P ++ Q) = (readAll Q).map (N ++ ·) := by
  induction P generalizing N with
  | nil => simp only [readAll] at h; cases h; simp
  | cons p r ih =>
    cases hp : readOf p (-999999999999) 999999999999 with
    | none => simp only [readAll, hp] at h; cases h
    | some n =>
      simp only [readAll, hp, List.cons_append] at h ⊢
      obtain ⟨M, hM, rfl⟩ := Option.map_eq_some_iff.1 h
      rw [ih M hM]
      cases readAll Q <;> simp
/-- What ParseList says. -/
noncomputable def readList (s : ByteArray) : Option (List Int) := if s = noneB then some [] else readAll (splitL 44 s.data.toList)

def ParsePost (r : Option (List Int)) (w : World) (e : Ending) (w' : World) : Prop :=
  ∃ g cap, e = .returned (.tuple #[.slice (some ⟨g, 0, none⟩) (r.getD []).length cap, .bool r.isSome]) ∧ w'.ownsRow w.heap.size 3 1 (.slice (some ⟨g, 0, none⟩) (r.getD []).length cap) (r.getD []).length ((r.getD []).map (Value.int .i64)) ∧ Below w.heap.size w w'

end Go.Proofs.Ytnbnkjmellmmlaa

/-
  CONTRACT of the reference's ParseList.
-/
namespace Go.Proofs.Ytnbnkjmellmmlaa
open Go Go.RowKit

theorem readList_none : readList noneB = some [] := by unfold readList; rw [if_pos rfl]
theorem noneB_list {s : ByteArray} (h : s.toList = [110, 111, 110, 101]) : s = noneB := by
  rw [ByteArray.toList_eq] at h
  cases s with
  | mk d => cases d with
    | mk l => simp at h; subst h; rfl

theorem len_le_lens (p : List UInt8) : ∀ L : List (List UInt8), p ∈ L → p.length ≤ Lib.lens L
  | [], h => by simp at h
  | q :: r, h => by
    rcases List.mem_cons.1 h with h | h
    · subst h; simp [Lib.lens]
    · have := len_le_lens p r h; simp [Lib.lens] at this ⊢; omega
theorem readAll_bad (P Q : List (List UInt8)) (p : List UInt8) (N : List Int) (h : readAll P = some N) (hp : readOf p (-999999999999) 999999999999 = none) : readAll (P ++ p :: Q) = none := by
  rw [readAll_append P _ N h]
  simp only [readAll, hp]
  rfl
theorem readAll_more (P : List (List UInt8)) (p : List UInt8) (N : List Int) (n : Int) (h : readAll P = some N) (hp : readOf p (-999999999999) 999999999999 = some n) : readAll (P ++ [p]) = some (N ++ [n]) := by
  rw [readAll_append P _ N h]
  simp only [readAll, hp]
  rfl

end Go.Proofs.Ytnbnkjmellmmlaa

/-
  CONTRACTS of the program's ListText and ParseList.
-/
namespace Go.Proofs.Ytnbnkjmellmmlaa
open Go Go.RowKit

theorem sizes_numerals (L : List Int) (hI : ∀ x ∈ L, -9223372036854775808 ≤ x ∧ x ≤ 9223372036854775807) : sizes (L.map numeral) ≤ 21 * L.length := by
  induction L with
  | nil => simp [sizes]
  | cons a r ih =>
    have h1 := ih (fun x hx => hI x (List.mem_cons_of_mem _ hx))
    have h2 := Lib.itoa_length_le a (hI a (by simp)).1 (hI a (by simp)).2
    have h3 : (numeral a).size = (Lib.itoa a).length := by unfold numeral; show (Lib.itoa a).toArray.size = _; simp
    rw [List.map_cons, show numeral a :: r.map numeral = [numeral a] ++ r.map numeral from rfl, sizes_append, List.length_cons]
    have h4 : sizes [numeral a] = (numeral a).size := by simp [sizes]
    omega

end Go.Proofs.Ytnbnkjmellmmlaa

/-
  CONTRACT of the program's ParseList.
-/
namespace Go.Proofs.Ytnbnkjmellmmlaa
open Go Go.RowKit

/-- A call read a list, or did not; the list may be nil where it is empty. -/
def ReadPost (r : Option (List Int)) (w : World) (e : Ending) (w' : World) : Prop :=
  ∃ v, e = .returned (.tuple #[v, .bool r.isSome]) ∧ w'.ownsRow w.heap.size 3 1 v (r.getD []).length ((r.getD []).map (Value.int .i64)) ∧ Below w.heap.size w w'


end Go.Proofs.Ytnbnkjmellmmlaa

/-
  THE CONTRACTS OF CHAPTER 2 IN THE CANONICAL FORM (genlaw.py): GcdOf, GcdOfList, IsAscending.
-/
namespace Go.Proofs.Ytnbnkjmellmmlaa
open Go Go.RowKit

theorem cs_GcdOf (x0 x1 : Int) (w : World) (_ : -9223372036854775808 ≤ x0) (_ : x0 ≤ 9223372036854775807) (_ : -9223372036854775808 ≤ x1) (_ : x1 ≤ 9223372036854775807) :
    Calls Try.prog 71 #[.int .i64 x0, .int .i64 x1] w fun e w' => e = .returned (.int .i64 (gcdOf x0 x1)) ∧ Below w.heap.size w w' :=
  (spec_GcdOf x0 x1 w).mono fun _ _ ⟨he, hw⟩ => ⟨he, by rw [hw]; exact Below.refl _ _⟩
theorem ci_GcdOf (x0 x1 : Int) (w : World) (_ : -9223372036854775808 ≤ x0) (_ : x0 ≤ 9223372036854775807) (_ : -9223372036854775808 ≤ x1) (_ : x1 ≤ 9223372036854775807) :
    Calls Try.prog 73 #[.int .i64 x0, .int .i64 x1] w fun e w' => e = .returned (.int .i64 (gcdOf x0 x1)) ∧ Below w.heap.size w w' :=
  impl_GcdOf x0 x1 w

theorem cs_GcdOfList (L : List Int) (a : Option Addr) (c : Nat) (w : World) (hr : SlW w a c (L.map (Value.int .i64))) (hb : L.length ≤ 1048576) :
    Calls Try.prog 50 #[.slice a L.length c] w fun e w' => e = .returned (.int .i64 (gcdL L)) ∧ Below w.heap.size w w' :=
  (spec_GcdOfList L a c w hr.sl (by unfold maxLen; omega)).mono fun _ _ ⟨he, hw⟩ => ⟨he, by rw [hw]; exact Below.refl _ _⟩
theorem ci_GcdOfList (L : List Int) (a : Option Addr) (c : Nat) (w : World) (hr : SlW w a c (L.map (Value.int .i64))) (hb : L.length ≤ 1048576) :
    Calls Try.prog 53 #[.slice a L.length c] w fun e w' => e = .returned (.int .i64 (gcdL L)) ∧ Below w.heap.size w w' :=
  impl_GcdOfList L a c w hr.sl (by unfold maxLen; omega)

theorem cs_IsAscending (L : List Int) (a : Option Addr) (c : Nat) (w : World) (hr : SlW w a c (L.map (Value.int .i64))) (hb : L.length ≤ 1048576) :
    Calls Try.prog 56 #[.slice a L.length c] w fun e w' => e = .returned (.bool (ascB L)) ∧ Below w.heap.size w w' :=
  spec_IsAscending L a c w hr.sl (by unfold maxLen; omega)
theorem ci_IsAscending (L : List Int) (a : Option Addr) (c : Nat) (w : World) (hr : SlW w a c (L.map (Value.int .i64))) (hb : L.length ≤ 1048576) :
    Calls Try.prog 75 #[.slice a L.length c] w fun e w' => e = .returned (.bool (ascB L)) ∧ Below w.heap.size w w' :=
  impl_IsAscending L a c w hr.sl (by unfold maxLen; omega)
end Go.Proofs.Ytnbnkjmellmmlaa

/-
  THE CONTRACTS OF CHAPTER 2 IN THE CANONICAL FORM (genlaw.py): HasNumber.
-/
namespace Go.Proofs.Ytnbnkjmellmmlaa
open Go Go.RowKit

theorem hasB_contains (L : List Int) (n : Int) : L.contains n = hasB L n := by
  unfold hasB
  rw [Bool.eq_iff_iff, List.contains_iff_mem, decide_eq_true_eq]


end Go.Proofs.Ytnbnkjmellmmlaa

/-
  THE CONTRACTS OF CHAPTER 2 IN THE CANONICAL FORM (genlaw.py): SortList.
-/
namespace Go.Proofs.Ytnbnkjmellmmlaa
open Go Go.RowKit

theorem cs_SortList (L : List Int) (a : Option Addr) (c : Nat) (w : World) (hr : SlW w a c (L.map (Value.int .i64))) (hb : L.length ≤ 1048576) :
    Calls Try.prog 74 #[.slice a L.length c] w (SlPost (sortL L) w) :=
  (spec_SortList L a c w hr.sl hb).mono fun _ _ ⟨_, _, he, ho, h⟩ => ⟨_, he, ho, h⟩
theorem ci_SortList (L : List Int) (a : Option Addr) (c : Nat) (w : World) (hr : SlW w a c (L.map (Value.int .i64))) (hb : L.length ≤ 1048576) :
    Calls Try.prog 64 #[.slice a L.length c] w (SlPost (sortL L) w) :=
  impl_SortList L a c w hr hb
end Go.Proofs.Ytnbnkjmellmmlaa

/-
  THE CONTRACTS OF CHAPTER 2 IN THE CANONICAL FORM (genlaw.py): SumsOf, SharedOf.
-/
namespace Go.Proofs.Ytnbnkjmellmmlaa
open Go Go.RowKit

theorem allSums_length : ∀ A B : List Int, (allSums A B).length = A.length * B.length
  | [], B => by simp [allSums]
  | a :: r, B => by
    have ih := allSums_length r B
    unfold allSums at *
    rw [List.flatMap_cons, List.length_append, ih, List.length_map, List.length_cons, Nat.succ_mul, Nat.add_comm]

theorem sums_length_le (A B : List Int) : (sums A B).length ≤ 90000 := by
  unfold sums
  split
  · rename_i h
    rw [Bool.and_eq_true] at h
    obtain ⟨h1, -⟩ := allB_iff h.1
    obtain ⟨h2, -⟩ := allB_iff h.2
    refine Nat.le_trans (sortL_length_le _) ?_
    rw [allSums_length]
    exact Nat.le_trans (Nat.mul_le_mul h1 h2) (by decide)
  · simp

end Go.Proofs.Ytnbnkjmellmmlaa

/-
  THE CONTRACTS OF CHAPTER 2 IN THE CANONICAL FORM (genlaw.py): ListText.
-/
namespace Go.Proofs.Ytnbnkjmellmmlaa
open Go Go.RowKit

end Go.Proofs.Ytnbnkjmellmmlaa

/-
  THE CONTRACTS OF CHAPTER 2 IN THE CANONICAL FORM (genlaw.py): ParseList.
-/
namespace Go.Proofs.Ytnbnkjmellmmlaa
open Go Go.RowKit

theorem readAll_length : ∀ (P : List (List UInt8)) (N : List Int), readAll P = some N → N.length = P.length
  | [], N, h => by simp only [readAll] at h; cases h; rfl
  | p :: r, N, h => by
    simp only [readAll] at h
    cases hp : readOf p (-999999999999) 999999999999 with
    | none => rw [hp] at h; cases h
    | some n =>
      rw [hp] at h
      simp only [Option.map_eq_some_iff] at h
      obtain ⟨M, hM, rfl⟩ := h
      rw [List.length_cons, List.length_cons, readAll_length r M hM]

theorem readList_length_le (s : ByteArray) : ((readList s).getD []).length ≤ s.size + 1 := by
  cases h : readList s with
  | none => simp
  | some N =>
    unfold readList at h
    split at h
    · cases h; simp
    · have h1 := readAll_length _ _ h
      have h2 := splitL_length 44 s.data.toList
      have e2 : s.data.toList.length = s.size := by simp
      simp only [Option.getD_some]
      omega

end Go.Proofs.Ytnbnkjmellmmlaa

/-
  PLAIN LEMMAS for the law on lists: a list is read again from its text; sums commute; what a positive common divisor divides.
-/
namespace Go.Proofs.Ytnbnkjmellmmlaa
open Go

theorem decDigits_bytes (u : Nat) : ∀ x ∈ Lib.decDigits u, 48 ≤ x.toNat ∧ x.toNat ≤ 57 := by
  induction u using Nat.strongRecOn with
  | _ u ih =>
    rw [Lib.decDigits]
    by_cases h : u < 10
    · rw [dif_pos h]
      intro x hx
      rw [List.mem_singleton] at hx
      subst hx
      rw [UInt8.toNat_ofNat']
      omega
    · rw [dif_neg h]
      intro x hx
      rcases List.mem_append.1 hx with hx | hx
      · exact ih (u / 10) (by omega) x hx
      · rw [List.mem_singleton] at hx
        subst hx
        rw [UInt8.toNat_ofNat']
        omega
theorem itoa_bytes (n : Int) : ∀ x ∈ Lib.itoa n, x.toNat = 45 ∨ (48 ≤ x.toNat ∧ x.toNat ≤ 57) := by
  intro x hx
  unfold Lib.itoa at hx
  split at hx
  · rcases List.mem_cons.1 hx with h | h
    · subst h; exact .inl rfl
    · exact .inr (decDigits_bytes _ x h)
  · exact .inr (decDigits_bytes _ x hx)
theorem itoa_no44 (n : Int) : ∀ x ∈ Lib.itoa n, x ≠ 44 := by
  intro x hx e
  subst e
  rcases itoa_bytes n _ hx with h | ⟨h, _⟩
  · exact absurd h (by decide)
  · exact absurd h (by decide)
theorem itoa_ne (n : Int) : Lib.itoa n ≠ [] := by
  unfold Lib.itoa
  split
  · simp
  · rw [Lib.decDigits]
    split <;> simp

theorem splitL_join' (c : UInt8) : ∀ (p : List UInt8) (ps : List (List UInt8)), (∀ q ∈ p :: ps, ∀ x ∈ q, x ≠ c) → splitL c (Lib.join (p :: ps) [c]) = p :: ps
  | p, [], h => by
    rw [Lib.join_one]
    exact splitL_none c p (h p (by simp))
  | p, q :: r, h => by
    have ih := splitL_join' c q r (fun x hx => h x (List.mem_cons_of_mem _ hx))
    have e : Lib.join (p :: q :: r) [c] = p ++ c :: Lib.join (q :: r) [c] := by
      rw [Lib.join_cons, Lib.join_cons]
      simp [Lib.joinTail]
    rw [e, splitL_hit c _ p (h p (by simp)), ih]

theorem readAll_itoa : ∀ L : List Int, (∀ x ∈ L, -999999999999 ≤ x ∧ x ≤ 999999999999) → readAll (L.map Lib.itoa) = some L
  | [], _ => rfl
  | x :: r, h => by
    have hx := h x (by simp)
    simp only [List.map_cons, readAll, readOf_some rfl hx.1 hx.2, readAll_itoa r (fun y hy => h y (List.mem_cons_of_mem _ hy))]
    rfl

theorem readList_listText (L : List Int) (h : ∀ x ∈ L, -999999999999 ≤ x ∧ x ≤ 999999999999) : readList (listText L) = some L := by
  cases L with
  | nil => show readList noneB = some []; exact readList_none
  | cons x r =>
    have hT := listText_cons (L := x :: r) (by simp)
    have hne : listText (x :: r) ≠ noneB := by
      rw [hT]
      intro e
      have e2 := congrArg (fun s : ByteArray => s.data.toList) e
      simp only [noneB, List.map_cons, Lib.join_cons] at e2
      cases hi : Lib.itoa x with
      | nil => exact itoa_ne x hi
      | cons b t =>
        rw [hi] at e2
        simp at e2
        have hb := itoa_bytes x b (by rw [hi]; simp)
        rw [e2.1] at hb
        rcases hb with hb | ⟨_, hb⟩ <;> exact absurd hb (by decide)
    unfold readList
    rw [if_neg hne, hT]
    show readAll (splitL 44 (Lib.join ((x :: r).map Lib.itoa) [44])) = _
    rw [List.map_cons, splitL_join' 44 _ _ ?_, ← List.map_cons, readAll_itoa _ h]
    intro q hq
    rw [← List.map_cons] at hq
    obtain ⟨y, -, rfl⟩ := List.mem_map.1 hq
    exact itoa_no44 y

theorem listText_size (L : List Int) (hI : ∀ x ∈ L, -9223372036854775808 ≤ x ∧ x ≤ 9223372036854775807) : (listText L).size ≤ 22 * L.length + 4 := by
  cases L with
  | nil => decide
  | cons x r =>
    rw [listText_cons (by simp)]
    have h1 : (Lib.join ((x :: r).map Lib.itoa) [44]).length ≤ 22 * (x :: r).length := by
      rw [List.map_cons, Lib.join_cons, List.length_append, Lib.joinTail_length]
      have h2 : ∀ M : List Int, (∀ x ∈ M, -9223372036854775808 ≤ x ∧ x ≤ 9223372036854775807) → Lib.lens (M.map Lib.itoa) ≤ 21 * M.length := by
        intro M
        induction M with
        | nil => intro _; simp [Lib.lens]
        | cons y t ih =>
          intro h
          have h3 := Lib.itoa_length_le y (h y (by simp)).1 (h y (by simp)).2
          have h4 := ih (fun z hz => h z (List.mem_cons_of_mem _ hz))
          simp only [Lib.lens, List.map_cons, List.sum_cons, List.length_cons] at h4 ⊢
          omega
      have h3 := h2 r (fun z hz => hI z (List.mem_cons_of_mem _ hz))
      have h4 := Lib.itoa_length_le x (hI x (by simp)).1 (hI x (by simp)).2
      simp only [List.length_cons, List.length_map, List.length_nil]
      omega
    show (Lib.join ((x :: r).map Lib.itoa) [44]).toArray.size ≤ _
    rw [List.size_toArray]
    omega

theorem ascB_sortL (L : List Int) : ascB (sortL L) = true :=
  ascB_true fun k hk => (sortL_spec L).1 k (k + 1) hk (by omega)

theorem mem_allSums (A B : List Int) (z : Int) : z ∈ allSums A B ↔ ∃ x ∈ A, ∃ y ∈ B, x + y = z := by
  unfold allSums
  simp [List.mem_flatMap, List.mem_map]

theorem sums_comm (A B : List Int) : sums A B = sums B A := by
  unfold sums
  rw [Bool.and_comm]
  split
  · refine sortL_eq (sortL_spec _).1 fun z => ?_
    rw [(sortL_spec _).2, mem_allSums, mem_allSums]
    constructor
    · rintro ⟨x, hx, y, hy, e⟩; exact ⟨y, hy, x, hx, by omega⟩
    · rintro ⟨x, hx, y, hy, e⟩; exact ⟨y, hy, x, hx, by omega⟩
  · rfl

theorem gcdOf_divides {a b : Int} (h : 0 < gcdOf a b) : a.tmod (gcdOf a b) = 0 ∧ b.tmod (gcdOf a b) = 0 := by
  unfold gcdOf at *
  split at h
  · rename_i hs
    rw [if_pos hs]
    constructor
    · exact Int.tmod_eq_zero_of_dvd (Int.ofNat_dvd_left.2 (Nat.gcd_dvd_left _ _))
    · exact Int.tmod_eq_zero_of_dvd (Int.ofNat_dvd_left.2 (Nat.gcd_dvd_right _ _))
  · omega
end Go.Proofs.Ytnbnkjmellmmlaa
