/-
  THE DRAWS OF SEMIGROUPS (chapter 3, first three texts).
-/
import Derived.Test.YtljfiiohiolbnaaCh3L
import Derived.Test.YtljfiiohiolbnaaDrw
import Derived.Test.YtljfiiohiolbnaaSgL
import Derived.Deep.RegionLaw
import Derived.Laws.AppendOwnNone

/-
  PLAIN LEMMAS: sums by reckoning; the eight lists that the draws know are semigroups. No program in this text.
-/
namespace Go.Proofs.Ytljfiiohiolbnaa
open Go

/-- Of the numbers n, n-1, .., 0 (in this order) whether they are sums. -/
def dp (G : List Nat) : Nat → List Bool
  | 0 => [true]
  | n + 1 => (G.any fun g => (dp G n).getD (g - 1) false) :: dp G n
theorem dp_length (G : List Nat) : ∀ n, (dp G n).length = n + 1
  | 0 => rfl
  | n + 1 => by rw [dp, List.length_cons, dp_length G n]
theorem dp_get {G : List Nat} (hG : ∀ g ∈ G, 1 ≤ g) : ∀ n i, i ≤ n → (dp G n).getD i false = sumB (G.map fun g : Nat => (g : Int)) (n - i) := by
  intro n
  induction n with
  | zero =>
    intro i hi
    obtain rfl : i = 0 := by omega
    rw [Nat.sub_zero, sumB_zero]; rfl
  | succ n ih =>
    intro i hi
    cases i with
    | succ i =>
      rw [dp, List.getD_cons_succ, ih i (by omega)]
      congr 1; omega
    | zero =>
      rw [dp, List.getD_cons_zero, Nat.sub_zero, Bool.eq_iff_iff, List.any_eq_true, sumB_iff, isSum_step (by omega)]
      constructor
      · rintro ⟨g, hg, h⟩
        have h1 := hG g hg
        by_cases hle : g - 1 ≤ n
        · rw [ih (g - 1) hle, sumB_iff] at h
          refine ⟨g, List.mem_map.2 ⟨g, hg, rfl⟩, by omega, ?_⟩
          rw [show n + 1 - g = n - (g - 1) by omega]; exact h
        · rw [List.getD, List.getElem?_eq_none (by rw [dp_length]; omega)] at h
          cases h
      · rintro ⟨g, hg, hle, h⟩
        obtain ⟨g', hg', e⟩ := List.mem_map.1 hg
        obtain rfl : g' = g := by omega
        have h1 := hG g' hg'
        refine ⟨g', hg', ?_⟩
        rw [ih (g' - 1) (by omega), sumB_iff, show n - (g' - 1) = n + 1 - g' by omega]; exact h

/-- A list of numbers checked by reckoning. -/
def chkSg (G : List Nat) : Bool :=
  decide (1 ≤ G.length) && decide (G.length ≤ 12) && G.all (fun g => decide (1 ≤ g) && decide (g ≤ 60)) && (List.range (G.length - 1)).all (fun i => decide (G.getD i 0 < G.getD (i + 1) 0)) &&
  (List.range G.length).all (fun i => !(dp (G.take i) (G.getD i 0)).getD 0 false) && ((dp G 259).take 60).all id

theorem sum_of_map {G : List Nat} {n : Nat} : sumB (G.map fun g : Nat => (g : Int)) n = sumB (G.map fun g : Nat => (g : Int)) n := rfl
theorem chkSg_spec {G : List Nat} (h : chkSg G = true) : isSgB (G.map fun g : Nat => (g : Int)) = true := by
  unfold chkSg at h
  simp only [Bool.and_eq_true, decide_eq_true_eq, List.all_eq_true, List.mem_range] at h
  obtain ⟨⟨⟨⟨⟨h1, h2⟩, h3⟩, h4⟩, h5⟩, h6⟩ := h
  have hlen : (G.map fun g : Nat => (g : Int)).length = G.length := List.length_map _
  have hok : okG (G.map fun g : Nat => (g : Int)) = true := okG_iff.2 ⟨fun x hx => by
    obtain ⟨g, hg, rfl⟩ := List.mem_map.1 hx
    have := h3 g hg
    omega, by omega, by omega⟩
  have hget : ∀ i (hi : i < G.length), G.getD i 0 = G[i] := fun i hi => by rw [List.getD, List.getElem?_eq_getElem hi]; rfl
  have hasc : Asc (G.map fun g : Nat => (g : Int)) := asc_of_next fun k hk => by
    rw [hlen] at hk
    have := h4 k (by omega)
    rw [hget k (by omega), hget (k + 1) hk] at this
    simp only [List.getElem_map]
    omega
  have hnext : ascB (G.map fun g : Nat => (g : Int)) = true := ascB_true fun k hk => hasc k (k + 1) hk (by omega)
  refine (isSgB_way hok (by omega) hnext).2 ⟨?_, ?_⟩
  · have hall : ∀ x ∈ (G.map fun g : Nat => (g : Int)), (!sumB ((G.map fun g : Nat => (g : Int)).filter fun y => decide (y < x)) x.toNat) = true := by
      intro x hx
      obtain ⟨i, hi, rfl⟩ := List.getElem_of_mem hx
      rw [← take_lesser hasc i hi]
      have hi' : i < G.length := by rw [hlen] at hi; exact hi
      have h := h5 i hi'
      have hp : ∀ g ∈ G.take i, 1 ≤ g := fun g hg => (h3 g (List.mem_of_mem_take hg)).1
      rw [dp_get hp _ 0 (Nat.zero_le _), hget i hi', Nat.sub_zero] at h
      rw [← List.map_take, List.getElem_map, Int.toNat_natCast]
      exact h
    unfold minOf
    rw [List.filter_eq_self.2 hall]
    exact Nat.le_refl _
  · intro n hn1 hn2
    have hp : ∀ g ∈ G, 1 ≤ g := fun g hg => (h3 g hg).1
    have h := dp_get hp 259 (259 - n) (by omega)
    rw [show 259 - (259 - n) = n by omega] at h
    rw [← h]
    have hm : (dp G 259).getD (259 - n) false ∈ (dp G 259).take 60 := by
      rw [List.getD, List.getElem?_eq_getElem (by rw [dp_length]; omega)]
      exact List.mem_take_iff_getElem.2 ⟨259 - n, by rw [dp_length]; omega, rfl⟩
    exact h6 _ hm

def baseL : List (List Nat) := [[1], [3, 5], [4, 6, 9], [3, 4, 5], [6, 9, 20], [5, 7, 9, 11], [2, 3], [4, 5, 11]]
theorem baseL_chk : baseL.all chkSg = true := by decide +kernel
theorem baseL_sg {G : List Nat} (h : G ∈ baseL) : isSgB (G.map fun g : Nat => (g : Int)) = true := chkSg_spec (List.all_eq_true.1 baseL_chk G h)
/-- The numbers of a semigroup are those of the semigroup that they make. -/
theorem from_sg {G : List Int} (h : isSgB G = true) : fromB G = true ∧ fromL G = G := by
  have hs := isSgB_iff.1 h
  have hf : fromB G = true := by unfold fromB; rw [hs.ok, hs.min, h]; rfl
  exact ⟨hf, by rw [fromL_yes hf]; exact hs.min⟩
theorem baseL_len {G : List Nat} (h : G ∈ baseL) : G.length ≤ 4 := by
  have : baseL.all (fun G => decide (G.length ≤ 4)) = true := by decide
  simpa using List.all_eq_true.1 this G h
end Go.Proofs.Ytljfiiohiolbnaa

/-
  CONTRACTS of the draws of chapter 3: semigroups, with a number; lists of generators.
-/
namespace Go.Proofs.Ytljfiiohiolbnaa
open Go Go.RowKit

theorem Dr.belowW {W w w' : World} {N : Nat} {a : Option Addr} {len cap : Nat} {zs : List Int} (h : Dr W w N a len cap zs) (hb : Below w.heap.size w w') : Dr W w' N a len cap zs := by
  have hlt := h.lt
  obtain ⟨i, hh, hi, hbk⟩ := h.cur
  exact ⟨h.base, h.bel.trans (hb.mono h.bel.size), h.row, ⟨i, hh, hi, (hb.block N hlt).trans hbk⟩⟩
theorem grown_below {w w' w2 : World} {N : Nat} (h : w.grownBy w' (some N)) (hb : Below w'.heap.size w' w2) : w.grownBy w2 (some N) :=
  grown_more h (below_grownBy hb none) (fun k hk => by cases hk)
theorem Arr.grownN {w w' : World} {g N : Nat} {t : TypeId} {cs : List Value} (h : Arr w g t cs) (hg : w.grownBy w' (some N)) (hne : g ≠ N) : Arr w' g t cs := h.grown hg (fun e => hne (by injection e))

/-- A draw made a list of the eight. -/
def DrewB (W w : World) (N : Nat) (a : Option Addr) (len cap : Nat) (zs : List Int) (e : Ending) (w' : World) : Prop :=
  ∃ (G : List Nat) (v : Value), G ∈ baseL ∧ e = .returned v ∧ w'.ownsRow w.heap.size 3 1 v G.length ((G.map fun g : Nat => (g : Int)).map (Value.int .i64)) ∧ Dr W w' N a len cap zs ∧ w.grownBy w' (some N)

set_option maxRecDepth 100000 in
set_option maxHeartbeats 1600000 in
theorem l3List_dr {W w : World} {N : Nat} {a : Option Addr} {len cap : Nat} {zs : List Int} (hd : Dr W w N a len cap zs) :
    Calls Try.prog 81 #[.pointer (some ⟨N, 0, none⟩)] w (DrewB W w N a len cap zs) := by
  go_enter Try.func81, Try.ntmps81
  go_wp2_with fail
  refine (l1Below_dr hd 8 (by decide)).mono ?_
  rintro e w1 ⟨x, ⟨hx0, hx⟩, rfl, hd1, hg1⟩
  have hsz := hg1.size
  have hcs : x = 0 ∨ x = 1 ∨ x = 2 ∨ x = 3 ∨ x = 4 ∨ x = 5 ∨ x = 6 ∨ x = 7 := by omega
  clear hx hx0 hd
  rcases hcs with rfl | rfl | rfl | rfl | rfl | rfl | rfl | rfl
  · go_wp2_with fail
    go_ret
    exact ⟨[1], _, by decide, rfl, World.ownsRow_lit w1 #[.int .i64 1] 1 hsz (by unfold maxLen; omega) rfl, hd1.alloc _, grown_alloc hg1 _⟩
  · go_wp2_with fail
    go_ret
    exact ⟨[3, 5], _, by decide, rfl, World.ownsRow_lit w1 #[.int .i64 3, .int .i64 5] 2 hsz (by unfold maxLen; omega) rfl, hd1.alloc _, grown_alloc hg1 _⟩
  · go_wp2_with fail
    go_ret
    exact ⟨[4, 6, 9], _, by decide, rfl, World.ownsRow_lit w1 #[.int .i64 4, .int .i64 6, .int .i64 9] 3 hsz (by unfold maxLen; omega) rfl, hd1.alloc _, grown_alloc hg1 _⟩
  · go_wp2_with fail
    go_ret
    exact ⟨[3, 4, 5], _, by decide, rfl, World.ownsRow_lit w1 #[.int .i64 3, .int .i64 4, .int .i64 5] 3 hsz (by unfold maxLen; omega) rfl, hd1.alloc _, grown_alloc hg1 _⟩
  · go_wp2_with fail
    go_ret
    exact ⟨[6, 9, 20], _, by decide, rfl, World.ownsRow_lit w1 #[.int .i64 6, .int .i64 9, .int .i64 20] 3 hsz (by unfold maxLen; omega) rfl, hd1.alloc _, grown_alloc hg1 _⟩
  · go_wp2_with fail
    go_ret
    exact ⟨[5, 7, 9, 11], _, by decide, rfl, World.ownsRow_lit w1 #[.int .i64 5, .int .i64 7, .int .i64 9, .int .i64 11] 4 hsz (by unfold maxLen; omega) rfl, hd1.alloc _, grown_alloc hg1 _⟩
  · go_wp2_with fail
    go_ret
    exact ⟨[2, 3], _, by decide, rfl, World.ownsRow_lit w1 #[.int .i64 2, .int .i64 3] 2 hsz (by unfold maxLen; omega) rfl, hd1.alloc _, grown_alloc hg1 _⟩
  · go_wp2_with fail
    go_ret
    exact ⟨[4, 5, 11], _, by decide, rfl, World.ownsRow_lit w1 #[.int .i64 4, .int .i64 5, .int .i64 11] 3 hsz (by unfold maxLen; omega) rfl, hd1.alloc _, grown_alloc hg1 _⟩

/-- A draw made a semigroup. -/
def DrewSg (W w : World) (N : Nat) (a : Option Addr) (len cap : Nat) (zs : List Int) (e : Ending) (w' : World) : Prop :=
  ∃ (L : List Int) (v : Value), isSgB L = true ∧ e = .returned (.agg #[v]) ∧ w'.ownsRow w.heap.size 3 1 v L.length (L.map (Value.int .i64)) ∧ Dr W w' N a len cap zs ∧ w.grownBy w' (some N)

theorem SlV.of_owns' {w : World} {base : Nat} {e : TypeId} {g n cap : Nat} {xs : List Value} (h : w.ownsRow base e 1 (.slice (some ⟨g, 0, none⟩) n cap) n xs) : SlV w (some ⟨g, 0, none⟩) xs := by
  obtain ⟨a1, c1, e1, -, -, hs, -⟩ := SlV.of_owns h
  cases e1
  exact hs
theorem from_post {G : List Nat} (h : G ∈ baseL) {w : World} : SgPost (fromL (G.map fun g : Nat => (g : Int))) (fromB (G.map fun g : Nat => (g : Int))) w = SgPost (G.map fun g : Nat => (g : Int)) true w := by
  obtain ⟨h1, h2⟩ := from_sg (baseL_sg h)
  rw [h1, h2]

set_option maxRecDepth 100000 in
set_option maxHeartbeats 6400000 in
theorem l3Draw_dr {W w : World} {N : Nat} {a : Option Addr} {len cap : Nat} {zs : List Int} (hd : Dr W w N a len cap zs) :
    Calls Try.prog 65 #[.pointer (some ⟨N, 0, none⟩)] w (DrewSg W w N a len cap zs) := by
  obtain ⟨i0, hi, hz0, hz1, hz2⟩ := info_parts infoIntL
  have hN := hd.lt
  have hNne : w.heap.size ≠ N := by omega
  have hWw := hd.bel.size
  have hA0 := Arr.new w 26 [.slice none 0 0]
  have hg0 := grown_alloc (grown_refl w (some N)) (.cells #[.slice none 0 0] 26)
  go_enter Try.func65, Try.ntmps65
  go_wp2_with fail
  refine (l1Once_dr (hd.alloc _) 4 (by decide)).mono ?_
  rintro e w1 ⟨b, rfl, hd1, hg1⟩
  have hA1 := hA0.grownN hg1 hNne
  have hgw1 := grown_trans hg0 hg1
  clear hA0 hg0 hg1 hd
  cases b
  · go_wp2_with fail
    go_loopw [5] (fun i wr => ∃ k : Nat, k ≤ 4 ∧ i = .int .i64 (k : Int) ∧ Dr W wr N a len cap zs ∧ w.grownBy wr (some N) ∧ Arr wr w.heap.size 26 [.slice none 0 0]) (fun i _ => 4 - (intOf i).toNat)
    case atStart => exact ⟨0, by omega, rfl, hd1, hgw1, hA1⟩
    case round =>
      clear hd1 hgw1 hA1
      obtain ⟨k0, hk0, rfl, hd, hgw, hA⟩ := hrel
      by_cases hk4 : k0 < 4
      · have hk4' : (k0 : Int) < 4 := by omega
        go_wp2_with fail
        refine (l1Below_dr hd 8 (by decide)).mono ?_
        rintro e w2 ⟨x, ⟨hx0, hx⟩, rfl, hd2, hg2⟩
        have hx8 : x < 8 := by omega
        have hA2 := hA.grownN hg2 hNne
        have hgw2 := grown_trans hgw hg2
        have hxw : IntKind.i64.wrap (2 + x) = 2 + x := IntWalk.i64_in _ (by omega)
        have hz2' := hgw2.size
        clear hx hd hg2 hA hgw
        go_wp2_with fail
        refine (l1Below_dr (hd2.alloc _) 4 (by decide)).mono ?_
        rintro e w3 ⟨m, ⟨hm0, hm⟩, rfl, hd3, hg3⟩
        obtain ⟨M, rfl⟩ := Int.eq_ofNat_of_zero_le hm0
        have hM : M < 4 := by omega
        have hg3' := grown_trans (grown_alloc hgw2 (.cells #[.int .i64 (2 + x)] 3)) hg3
        have hA3 : Arr w3 w.heap.size 26 [.slice none 0 0] := (hA2.alloc _).grownN hg3 hNne
        have hown0 : (w2.alloc (.cells #[.int .i64 (2 + x)] 3)).ownsRow (w.heap.size + 1) 3 1 (.slice (some ⟨w2.heap.size, 0, none⟩) 1 1) 1 [.int .i64 (2 + x)] := World.ownsRow_lit w2 #[.int .i64 (2 + x)] 1 (by have := hA2.lt; omega) (by unfold maxLen; omega) rfl
        have hlw := hown0.lt
        have hown3 : w3.ownsRow (w.heap.size + 1) 3 1 (.slice (some ⟨w2.heap.size, 0, none⟩) 1 1) 1 [.int .i64 (2 + x)] := row_kept hown0 fun j hj => hg3.block j (hlw j hj).2 (fun e => by injection e with e; have := (hlw j hj).1; omega)
        have HX0 := Lib.hid hx0
        have HX8 := Lib.hid hx8
        have hz3 := hg3'.size
        have hd3b := hd3.base
        clear hm hg3 hA2 hgw2 hd2 hown0 hlw hxw hm0
        go_wp2_with fail
        go_loopw [6, 8] (fun v i wr => ∃ (k q c : Nat) (L : List Int) (x0 : Int), k ≤ M + 1 ∧ i = .int .i64 (k : Int) ∧ v = .slice (some ⟨q, 0, none⟩) L.length c ∧ L.length = k + 1 ∧ (2 ≤ x0 ∧ x0 ≤ 9 ∧ ∃ R, L = x0 :: R) ∧
            wr.ownsRow (w.heap.size + 1) 3 1 (.slice (some ⟨q, 0, none⟩) L.length c) L.length (L.map (Value.int .i64)) ∧ Dr W wr N a len cap zs ∧ w.grownBy wr (some N) ∧ Arr wr w.heap.size 26 [.slice none 0 0]) (fun _ i _ => M + 1 - (intOf i).toNat)
        case atStart => exact ⟨0, w2.heap.size, 1, [2 + x], 2 + x, by omega, rfl, rfl, rfl, ⟨by have := HX0.out; omega, by have := HX8.out; omega, [], rfl⟩, hown3, hd3, hg3', hA3⟩
        case round =>
          clear hown3 hd3 hg3' hA3
          obtain ⟨k, q, c, L, x0, hk, rfl, rfl, hLk, ⟨hx2, hx9, hX⟩, hown, hd, hgw, hA⟩ := hrel
          have HL := Lib.hid hLk
          have HX := Lib.hid hX
          have hL6 : L.length ≤ 6 := by omega
          clear hLk
          by_cases hkM : k < M + 1
          · have hkM' : (k : Int) < (M : Int) + 1 := by omega
            have hq := (owns_facts hown).1
            have hql := (owns_facts hown).2.1
            have hNq : N < w.heap.size + 1 := by omega
            have hqN : q ≠ N := by omega
            have hcell : wr.cell? ⟨q, 0, none⟩ = some (.int .i64 x0) := by
              obtain ⟨b, off, e2, hbs, hc⟩ := (SlV.of_owns' hown).open (by obtain ⟨R, rfl⟩ := hX; simp)
              cases e2
              obtain ⟨R, rfl⟩ := hX
              have := hc 0 (.int .i64 x0) rfl
              simpa using this
            have hLp : 0 < L.length := by obtain ⟨R, rfl⟩ := hX; simp
            have hdd : Dr W wr.drew N a len cap zs := hd.drewN 1
            have hw1 : IntKind.i64.wrap (x0 + 1) = x0 + 1 := IntWalk.i64_in _ (by omega)
            clear hX hd
            go_wp2_with fail
            refine wp_region_held_drew (S := fun _ => True) (by kernel_rfl) trivial (fun hHeld => ?_)
            refine held_take 0 _ _ rfl (by kernel_rfl) (by kernel_rfl) (by kernel_rfl) (fun _ _ _ h => h) (by rfl) hHeld (fun w hSw => by (try dsimp only at hSw); go_simp; try with_reducible rfl) ?_
            (try simp only [Act.put, List.setIfInBounds_toArray, List.set_cons_zero, List.set_cons_succ, List.getElem_toArray, List.getElem_cons_zero])
            refine held_take 1 _ _ rfl (by kernel_rfl) (by kernel_rfl) (by kernel_rfl) (fun _ _ _ h => h) (by rfl) hHeld (fun w hSw => by (try dsimp only at hSw); go_simp; try with_reducible rfl) ?_
            (try simp only [Act.put, List.setIfInBounds_toArray, List.set_cons_zero, List.set_cons_succ, List.getElem_toArray, List.getElem_cons_succ, List.getElem_cons_zero])
            refine held_take 2 _ _ rfl (by kernel_rfl) (by kernel_rfl) (by kernel_rfl) (fun _ _ _ h => h) (by rfl) hHeld (fun w hSw => by (try dsimp only at hSw); go_simp; try with_reducible rfl) ?_
            (try simp only [Act.put, List.setIfInBounds_toArray, List.set_cons_zero, List.set_cons_succ, List.getElem_toArray, List.getElem_cons_succ, List.getElem_cons_zero])
            refine held_take 5 _ _ rfl (by kernel_rfl) (by kernel_rfl) (by kernel_rfl) (fun _ _ _ h => h) (by rfl) hHeld (fun w hSw => by (try dsimp only at hSw); go_simp; try with_reducible rfl) ?_
            (try simp only [Act.put, List.setIfInBounds_toArray, List.set_cons_zero, List.set_cons_succ, List.getElem_toArray, List.getElem_cons_succ, List.getElem_cons_zero])
            refine wpAnyH_ready (rs := [3, 6]) (by kernel_rfl) (by simp) ?_
            refine AllReadyH.cons rfl (fun K hK => ?_) (AllReadyH.cons rfl (fun K hK => ?_) AllReadyH.nil)
            · rw [if_pos (by rfl)]
              go_wp2_with fail
              refine hK.out _ _ (hHeld) (fun hHeld1 => ?_)
              clear hK K
              (try simp only [Act.put, List.setIfInBounds_toArray, List.set_cons_zero, List.set_cons_succ, List.getElem_toArray, List.getElem_cons_succ, List.getElem_cons_zero])
              refine held_take 4 _ _ rfl (by kernel_rfl) (by kernel_rfl) (by kernel_rfl) (fun _ _ _ h => h) (by rfl) hHeld1 (fun w hSw => by (try dsimp only at hSw); go_simp; try with_reducible rfl) ?_
              (try simp only [Act.put, List.setIfInBounds_toArray, List.set_cons_zero, List.set_cons_succ, List.getElem_toArray, List.getElem_cons_succ, List.getElem_cons_zero])
              refine wpAnyH_ready (rs := [6]) (by kernel_rfl) (by simp) ?_
              refine AllReadyH.cons rfl (fun K hK => ?_) AllReadyH.nil
              rw [if_pos (by rfl)]
              go_wp2_with (first | (go_at_call 52; (with_reducible refine (l1Below_dr hdd 12 (by decide)).mono ?_); rintro e w5 ⟨y, ⟨hy0, hy⟩, rfl, hd5, hg5⟩; have hc5 : w5.cell? ⟨q, 0, none⟩ = some (.int .i64 x0) := (grown_cell (w := wr.drew) hg5 hql hqN).trans hcell; have hy1 : y < 12 := (by omega); have hw2 : IntKind.i64.wrap (x0 + 1 + y) = x0 + 1 + y := IntWalk.i64_in _ (by omega); clear hy))
              refine hK.out _ _ (trivial) (fun hHeld2 => ?_)
              clear hK K
              (try simp only [Act.put, List.setIfInBounds_toArray, List.set_cons_zero, List.set_cons_succ, List.getElem_toArray, List.getElem_cons_succ, List.getElem_cons_zero])
              refine held_take 7 _ _ rfl (by kernel_rfl) (by kernel_rfl) (by kernel_rfl) (fun _ _ _ h => h) (by rfl) hHeld2 (fun w hSw => by (try dsimp only at hSw); go_simp; try with_reducible rfl) ?_
              (try simp only [Act.put, List.setIfInBounds_toArray, List.set_cons_zero, List.set_cons_succ, List.getElem_toArray, List.getElem_cons_succ, List.getElem_cons_zero])
              refine wpAnyH_ready (rs := [8]) (by kernel_rfl) (by simp) ?_
              refine AllReadyH.cons rfl (fun K hK => ?_) AllReadyH.nil
              rw [if_pos (by rfl)]
              go_wp2_with fail
              refine hK.out _ _ (hHeld2) (fun hHeld3 => ?_)
              clear hK K
              (try simp only [Act.put, List.setIfInBounds_toArray, List.set_cons_zero, List.set_cons_succ, List.getElem_toArray, List.getElem_cons_succ, List.getElem_cons_zero])
              refine wpAnyH_ready (rs := [9]) (by kernel_rfl) (by simp) ?_
              refine AllReadyH.cons rfl (fun K hK => ?_) AllReadyH.nil
              rw [if_pos (by rfl)]
              refine wp_append_lies _ (.tmp 38) (.tmp 46) 24 (by rfl) (w.heap.size + 1) 3 i0 (Value.int .i64 0) 1 8 Try.underlying24 hi hz0 hz1 hz2 rfl (by decide) (.slice (some ⟨q, 0, none⟩) L.length c) L.length (L.map (Value.int .i64)) (by rfl) ((dr_row hdd hown hNq hg5).alloc _) ⟨w5.heap.size, 0, none⟩ 1 1 [.int .i64 (x0 + 1 + y)] (by rfl) (by rfl) (World.news_of_block (cs := #[.int .i64 (x0 + 1 + y)]) (t := 3) (fr := (0, 0)) (heap_alloc_new w5 _)) (by simp [Value.oneCell']) (by omega) (by unfold maxLen; omega) (by omega) (by have hs5 : wr.heap.size ≤ w5.heap.size := hg5.size; simp; omega) _ rfl ?_; intro q3 c3 w6 hown6 hgr6 hat6 hlt6
              refine hK.out _ _ (trivial) (fun hHeld4 => ?_)
              clear hK K
              (try simp only [Act.put, List.setIfInBounds_toArray, List.set_cons_zero, List.set_cons_succ, List.getElem_toArray, List.getElem_cons_succ, List.getElem_cons_zero])
              refine held_take 10 _ _ rfl (by kernel_rfl) (by kernel_rfl) (by kernel_rfl) (fun _ _ _ h => h) (by rfl) hHeld4 (fun w hSw => by (try dsimp only at hSw); go_simp; try with_reducible rfl) ?_
              (try simp only [Act.put, List.setIfInBounds_toArray, List.set_cons_zero, List.set_cons_succ, List.getElem_toArray, List.getElem_cons_succ, List.getElem_cons_zero])
              refine wpAnyH_done (by kernel_rfl) ?_ _
              have hlow := (dr_row hdd hown hNq hg5).lt
              have hd6 : Dr W w6 N a len cap zs := (hd5.alloc _).grownR hgr6 (fun j hj => by have := (hlow j hj).1; have := hdd.base; have := hdd.lt; omega)
              have hgw6 : w.grownBy w6 (some N) := grown_more (grown_alloc (grown_trans (grown_drewN hgw 1) hg5) _) hgr6 (fun j hj => .inl (by have := (hlow j hj).1; omega))
              have hA6 : Arr w6 w.heap.size 26 [.slice none 0 0] := Arr.grownRow (Arr.alloc (Arr.grownN (w := wr.drew) (w' := w5) hA hg5 hNne) _) hgr6 (fun j hj => by have := (hlow j hj).1; omega)
              have HO := Lib.hid hown6
              clear hown6 hgr6 hat6 hlow hd5 hg5 hc5 hdd hown hA
              go_wp2_with fail
              go_roundw
              case rel => exact ⟨k + 1, q3, c3, L ++ [x0 + 1 + y], x0, by omega, by go_num, by simp, by have := HL.out; rw [List.length_append, List.length_singleton]; omega, ⟨hx2, hx9, by obtain ⟨Rr, rfl⟩ := HX.out; exact ⟨Rr ++ [x0 + 1 + y], rfl⟩⟩, by simpa using HO.out, hd6, hgw6, hA6⟩
              case measure => simp [intOf]; omega
            · rw [if_pos (by rfl)]
              go_wp2_with (first | (go_at_call 52; (with_reducible refine (l1Below_dr hdd 12 (by decide)).mono ?_); rintro e w5 ⟨y, ⟨hy0, hy⟩, rfl, hd5, hg5⟩; have hc5 : w5.cell? ⟨q, 0, none⟩ = some (.int .i64 x0) := (grown_cell (w := wr.drew) hg5 hql hqN).trans hcell; have hy1 : y < 12 := (by omega); have hw2 : IntKind.i64.wrap (x0 + 1 + y) = x0 + 1 + y := IntWalk.i64_in _ (by omega); clear hy))
              refine hK.out _ _ (trivial) (fun hHeld1 => ?_)
              clear hK K
              (try simp only [Act.put, List.setIfInBounds_toArray, List.set_cons_zero, List.set_cons_succ, List.getElem_toArray, List.getElem_cons_succ, List.getElem_cons_zero])
              refine wpAnyH_ready (rs := [3]) (by kernel_rfl) (by simp) ?_
              refine AllReadyH.cons rfl (fun K hK => ?_) AllReadyH.nil
              rw [if_pos (by rfl)]
              go_wp2_with fail
              refine hK.out _ _ (hHeld1) (fun hHeld2 => ?_)
              clear hK K
              (try simp only [Act.put, List.setIfInBounds_toArray, List.set_cons_zero, List.set_cons_succ, List.getElem_toArray, List.getElem_cons_succ, List.getElem_cons_zero])
              refine held_take 4 _ _ rfl (by kernel_rfl) (by kernel_rfl) (by kernel_rfl) (fun _ _ _ h => h) (by rfl) hHeld2 (fun w hSw => by (try dsimp only at hSw); go_simp; try with_reducible rfl) ?_
              (try simp only [Act.put, List.setIfInBounds_toArray, List.set_cons_zero, List.set_cons_succ, List.getElem_toArray, List.getElem_cons_succ, List.getElem_cons_zero])
              refine held_take 7 _ _ rfl (by kernel_rfl) (by kernel_rfl) (by kernel_rfl) (fun _ _ _ h => h) (by rfl) hHeld2 (fun w hSw => by (try dsimp only at hSw); go_simp; try with_reducible rfl) ?_
              (try simp only [Act.put, List.setIfInBounds_toArray, List.set_cons_zero, List.set_cons_succ, List.getElem_toArray, List.getElem_cons_succ, List.getElem_cons_zero])
              refine wpAnyH_ready (rs := [8]) (by kernel_rfl) (by simp) ?_
              refine AllReadyH.cons rfl (fun K hK => ?_) AllReadyH.nil
              rw [if_pos (by rfl)]
              go_wp2_with fail
              refine hK.out _ _ (hHeld2) (fun hHeld3 => ?_)
              clear hK K
              (try simp only [Act.put, List.setIfInBounds_toArray, List.set_cons_zero, List.set_cons_succ, List.getElem_toArray, List.getElem_cons_succ, List.getElem_cons_zero])
              refine wpAnyH_ready (rs := [9]) (by kernel_rfl) (by simp) ?_
              refine AllReadyH.cons rfl (fun K hK => ?_) AllReadyH.nil
              rw [if_pos (by rfl)]
              refine wp_append_lies _ (.tmp 38) (.tmp 46) 24 (by rfl) (w.heap.size + 1) 3 i0 (Value.int .i64 0) 1 8 Try.underlying24 hi hz0 hz1 hz2 rfl (by decide) (.slice (some ⟨q, 0, none⟩) L.length c) L.length (L.map (Value.int .i64)) (by rfl) ((dr_row hdd hown hNq hg5).alloc _) ⟨w5.heap.size, 0, none⟩ 1 1 [.int .i64 (x0 + 1 + y)] (by rfl) (by rfl) (World.news_of_block (cs := #[.int .i64 (x0 + 1 + y)]) (t := 3) (fr := (0, 0)) (heap_alloc_new w5 _)) (by simp [Value.oneCell']) (by omega) (by unfold maxLen; omega) (by omega) (by have hs5 : wr.heap.size ≤ w5.heap.size := hg5.size; simp; omega) _ rfl ?_; intro q3 c3 w6 hown6 hgr6 hat6 hlt6
              refine hK.out _ _ (trivial) (fun hHeld4 => ?_)
              clear hK K
              (try simp only [Act.put, List.setIfInBounds_toArray, List.set_cons_zero, List.set_cons_succ, List.getElem_toArray, List.getElem_cons_succ, List.getElem_cons_zero])
              refine held_take 10 _ _ rfl (by kernel_rfl) (by kernel_rfl) (by kernel_rfl) (fun _ _ _ h => h) (by rfl) hHeld4 (fun w hSw => by (try dsimp only at hSw); go_simp; try with_reducible rfl) ?_
              (try simp only [Act.put, List.setIfInBounds_toArray, List.set_cons_zero, List.set_cons_succ, List.getElem_toArray, List.getElem_cons_succ, List.getElem_cons_zero])
              refine wpAnyH_done (by kernel_rfl) ?_ _
              have hlow := (dr_row hdd hown hNq hg5).lt
              have hd6 : Dr W w6 N a len cap zs := (hd5.alloc _).grownR hgr6 (fun j hj => by have := (hlow j hj).1; have := hdd.base; have := hdd.lt; omega)
              have hgw6 : w.grownBy w6 (some N) := grown_more (grown_alloc (grown_trans (grown_drewN hgw 1) hg5) _) hgr6 (fun j hj => .inl (by have := (hlow j hj).1; omega))
              have hA6 : Arr w6 w.heap.size 26 [.slice none 0 0] := Arr.grownRow (Arr.alloc (Arr.grownN (w := wr.drew) (w' := w5) hA hg5 hNne) _) hgr6 (fun j hj => by have := (hlow j hj).1; omega)
              have HO := Lib.hid hown6
              clear hown6 hgr6 hat6 hlow hd5 hg5 hc5 hdd hown hA
              go_wp2_with fail
              go_roundw
              case rel => exact ⟨k + 1, q3, c3, L ++ [x0 + 1 + y], x0, by omega, by go_num, by simp, by have := HL.out; rw [List.length_append, List.length_singleton]; omega, ⟨hx2, hx9, by obtain ⟨Rr, rfl⟩ := HX.out; exact ⟨Rr ++ [x0 + 1 + y], rfl⟩⟩, by simpa using HO.out, hd6, hgw6, hA6⟩
              case measure => simp [intOf]; omega
          · have hkM' : ¬ (k : Int) < (M : Int) + 1 := by omega
            have cf := spec_FromGens L (some ⟨q, 0, none⟩) c wr (SlV.of_owns' hown) (by omega)
            have hbr := hgw.size
            have hltA := hA.lt
            clear hX hown
            go_wp2_with fail
            refine cf.mono ?_
            rintro e w7 ⟨v, rfl, ho7, hb7⟩
            obtain ⟨av, kv, rfl, -⟩ := row_open ho7
            have hd7 := hd.belowW hb7
            have hgw7 := grown_below hgw hb7
            have hA7 := hA.below hb7
            have HO7 := Lib.hid ho7
            have hA7n := hA7.alloc (.cells #[.slice av (fromL L).length kv] 26)
            have hc7 : (w7.alloc (.cells #[.slice av (fromL L).length kv] 26)).cell? ⟨w.heap.size, 0, none⟩ = some (.slice none 0 0) := hA7n.cell 0
            have hf7 := hA7n.frozen 0
            have HF := fun h => Lib.hid (fromL_isSg (L := L) h)
            clear cf hd hgw hA hb7 ho7 hA7
            generalize hkn : (fromL L).length = kn at *
            have HK := Lib.hid hkn
            clear hkn
            cases hfb : fromB L
            · clear hfb HF hc7 hf7
              go_wp2_with fail
              go_roundw
              case rel => exact ⟨k0 + 1, by omega, by go_num, hd7.alloc _, grown_alloc hgw7 _, hA7n⟩
              case measure => simp [intOf]; omega
            · have HS := HF hfb
              clear hfb HF hA7n
              go_wp2_with fail
              have hcf := World.cell?_setCell_same (w7.alloc (.cells #[.slice av kn kv] 26)) ⟨w.heap.size, 0, none⟩ (.slice av kn kv) hc7
              have hd8 : Dr W ((w7.alloc (.cells #[.slice av kn kv] 26)).setCell ⟨w.heap.size, 0, none⟩ (.slice av kn kv)) N a len cap zs := (hd7.alloc _).grownR (grownBy_setCell _ w.heap.size 0 _) (fun k hk => by cases hk; exact ⟨hWw, hNne⟩)
              have hg8 : w.grownBy ((w7.alloc (.cells #[.slice av kn kv] 26)).setCell ⟨w.heap.size, 0, none⟩ (.slice av kn kv)) (some N) := grown_more (grown_alloc hgw7 _) (grownBy_setCell _ w.heap.size 0 _) (fun k hk => by cases hk; exact .inl (Nat.le_refl _))
              refine bodyPost_ret (v := .agg #[.slice av kn kv]) (by simp [results, Try.results65, go_sem, hcf]) rfl ⟨fromL L, _, HS.out, rfl, ?_, hd8, hg8⟩
              have ho := HO7.out
              obtain rfl := HK.out
              refine ownsBase (row_kept ho fun j hj => ?_) (by omega)
              obtain ⟨hj1, hj2⟩ := ho.lt j hj
              rw [heap_setCell_other _ ⟨w.heap.size, 0, none⟩ j _ (by show j ≠ w.heap.size; omega), Below.heap_alloc w7 _ j hj2]
      · have hk4' : ¬ (k0 : Int) < 4 := by omega
        go_wp2_with fail
        refine (l3List_dr hd).mono ?_
        rintro e w6 ⟨G, v, hG, rfl, ho6, hd6, hg6⟩
        have hA6 := hA.grownN hg6 hNne
        have hgw6 := grown_trans hgw hg6
        have hb6 := hgw.size
        obtain ⟨a6, k6, rfl, r6⟩ := row_open ho6
        have cf := spec_FromGens (G.map fun g : Nat => (g : Int)) a6 k6 w6 r6.slv (by have := baseL_len hG; simp; omega)
        rw [List.length_map, from_post hG] at cf
        have HG := Lib.hid (baseL_sg hG)
        have hz6 := hg6.size
        have hltA := hA6.lt
        clear hg6 ho6 r6 hG
        go_wp2_with fail
        refine cf.mono ?_
        rintro e w7 ⟨v, rfl, ho7, hb7⟩
        obtain ⟨av, kv, rfl, -⟩ := row_open ho7
        have hd7 := hd6.belowW hb7
        have hgw7 := grown_below hgw6 hb7
        have hA7 := hA6.below hb7
        have HO7 := Lib.hid ho7
        have hA7n := hA7.alloc (.cells #[.slice av (G.map fun g : Nat => (g : Int)).length kv] 26)
        have hc7 : (w7.alloc (.cells #[.slice av (G.map fun g : Nat => (g : Int)).length kv] 26)).cell? ⟨w.heap.size, 0, none⟩ = some (.slice none 0 0) := hA7n.cell 0
        have hf7 := hA7n.frozen 0
        clear cf hd6 hgw6 hA6 hb7 ho7 hA7 hA7n
        generalize hkn : (G.map fun g : Nat => (g : Int)).length = kn at *
        have HK := Lib.hid hkn
        clear hkn
        go_wp2_with fail
        have hcf := World.cell?_setCell_same (w7.alloc (.cells #[.slice av kn kv] 26)) ⟨w.heap.size, 0, none⟩ (.slice av kn kv) hc7
        have hd8 : Dr W ((w7.alloc (.cells #[.slice av kn kv] 26)).setCell ⟨w.heap.size, 0, none⟩ (.slice av kn kv)) N a len cap zs := (hd7.alloc _).grownR (grownBy_setCell _ w.heap.size 0 _) (fun k hk => by cases hk; exact ⟨hWw, hNne⟩)
        have hg8 : w.grownBy ((w7.alloc (.cells #[.slice av kn kv] 26)).setCell ⟨w.heap.size, 0, none⟩ (.slice av kn kv)) (some N) := grown_more (grown_alloc hgw7 _) (grownBy_setCell _ w.heap.size 0 _) (fun k hk => by cases hk; exact .inl (Nat.le_refl _))
        refine bodyPost_ret (v := .agg #[.slice av kn kv]) (by simp [results, Try.results65, go_sem, hcf]) rfl ⟨G.map fun g : Nat => (g : Int), _, HG.out, rfl, ?_, hd8, hg8⟩
        have ho := HO7.out
        obtain rfl := HK.out
        refine ownsBase (row_kept ho fun j hj => ?_) (by have := hgw7.size; omega)
        obtain ⟨hj1, hj2⟩ := ho.lt j hj
        rw [heap_setCell_other _ ⟨w.heap.size, 0, none⟩ j _ (by show j ≠ w.heap.size; omega), Below.heap_alloc w7 _ j hj2]
  · go_wp2_with fail
    refine (l3List_dr hd1).mono ?_
    rintro e w6 ⟨G, v, hG, rfl, ho6, hd6, hg6⟩
    have hA6 := hA1.grownN hg6 hNne
    have hgw6 := grown_trans hgw1 hg6
    have hb6 := hgw1.size
    obtain ⟨a6, k6, rfl, r6⟩ := row_open ho6
    have cf := spec_FromGens (G.map fun g : Nat => (g : Int)) a6 k6 w6 r6.slv (by have := baseL_len hG; simp; omega)
    rw [List.length_map, from_post hG] at cf
    have HG := Lib.hid (baseL_sg hG)
    have hz6 := hg6.size
    have hltA := hA6.lt
    clear hg6 ho6 r6 hG
    go_wp2_with fail
    refine cf.mono ?_
    rintro e w7 ⟨v, rfl, ho7, hb7⟩
    obtain ⟨av, kv, rfl, -⟩ := row_open ho7
    have hd7 := hd6.belowW hb7
    have hgw7 := grown_below hgw6 hb7
    have hA7 := hA6.below hb7
    have HO7 := Lib.hid ho7
    have hA7n := hA7.alloc (.cells #[.slice av (G.map fun g : Nat => (g : Int)).length kv] 26)
    have hc7 : (w7.alloc (.cells #[.slice av (G.map fun g : Nat => (g : Int)).length kv] 26)).cell? ⟨w.heap.size, 0, none⟩ = some (.slice none 0 0) := hA7n.cell 0
    have hf7 := hA7n.frozen 0
    clear cf hd6 hgw6 hA6 hb7 ho7 hA7 hA7n
    generalize hkn : (G.map fun g : Nat => (g : Int)).length = kn at *
    have HK := Lib.hid hkn
    clear hkn
    go_wp2_with fail
    have hcf := World.cell?_setCell_same (w7.alloc (.cells #[.slice av kn kv] 26)) ⟨w.heap.size, 0, none⟩ (.slice av kn kv) hc7
    have hd8 : Dr W ((w7.alloc (.cells #[.slice av kn kv] 26)).setCell ⟨w.heap.size, 0, none⟩ (.slice av kn kv)) N a len cap zs := (hd7.alloc _).grownR (grownBy_setCell _ w.heap.size 0 _) (fun k hk => by cases hk; exact ⟨hWw, hNne⟩)
    have hg8 : w.grownBy ((w7.alloc (.cells #[.slice av kn kv] 26)).setCell ⟨w.heap.size, 0, none⟩ (.slice av kn kv)) (some N) := grown_more (grown_alloc hgw7 _) (grownBy_setCell _ w.heap.size 0 _) (fun k hk => by cases hk; exact .inl (Nat.le_refl _))
    refine bodyPost_ret (v := .agg #[.slice av kn kv]) (by simp [results, Try.results65, go_sem, hcf]) rfl ⟨G.map fun g : Nat => (g : Int), _, HG.out, rfl, ?_, hd8, hg8⟩
    have ho := HO7.out
    obtain rfl := HK.out
    refine ownsBase (row_kept ho fun j hj => ?_) (by have := hgw7.size; omega)
    obtain ⟨hj1, hj2⟩ := ho.lt j hj
    rw [heap_setCell_other _ ⟨w.heap.size, 0, none⟩ j _ (by show j ≠ w.heap.size; omega), Below.heap_alloc w7 _ j hj2]
end Go.Proofs.Ytljfiiohiolbnaa

/-
  CONTRACTS of the draws of chapter 3, second part: bent semigroups.
-/
namespace Go.Proofs.Ytljfiiohiolbnaa
open Go Go.RowKit

theorem SlW.grownN {w w' : World} {a : Option Addr} {c N : Nat} {xs : List Value} (h : SlW w a c xs) (hg : w.grownBy w' (some N)) (hf : ∀ p, a = some p → p.block ≠ N) : SlW w' a c xs := by
  refine ⟨?_, h.nil0, h.le, h.mx⟩
  rcases h.sl with h1 | ⟨b, off, ha, hlt, hc⟩
  · exact .inl h1
  · exact .inr ⟨b, off, ha, Nat.lt_of_lt_of_le hlt hg.size, fun i u hi => (World.cell?_of_block (a := ⟨b, off + i, none⟩) (hg.block b hlt (fun e => hf _ ha (by injection e)))).trans (hc i u hi)⟩
theorem SlW.of_owns {w : World} {base : Nat} {a : Option Addr} {n c : Nat} {xs : List Value} (h : w.ownsRow base 3 1 (.slice a n c) n xs) : SlW w a c xs ∧ ∀ p, a = some p → base ≤ p.block := by
  obtain ⟨a', c', e, hr⟩ := row_open h
  cases e
  exact ⟨hr.slw, fun p hp => by subst hp; exact (h.lt p.block rfl).1⟩

/-- A draw made a list of ints in a struct: somewhere in new memory. -/
def DrewG (W w : World) (N : Nat) (a : Option Addr) (len cap : Nat) (zs : List Int) (e : Ending) (w' : World) : Prop :=
  ∃ (L : List Int) (av : Option Addr) (cv : Nat), L.length ≤ 13 ∧ (∀ x ∈ L, InI64 x) ∧ e = .returned (.agg #[.slice av L.length cv]) ∧ SlW w' av cv (L.map (Value.int .i64)) ∧ (∀ p, av = some p → w.heap.size ≤ p.block) ∧ Dr W w' N a len cap zs ∧ w.grownBy w' (some N)
def bent3 : List Int := [0, 61, 12, -3, 60]
theorem bent3_in : ∀ x ∈ bent3, InI64 x := by unfold InI64; decide
def bent4 : List Int := [0, 59, 4]
theorem bent4_in : ∀ x ∈ bent4, InI64 x := by unfold InI64; decide
theorem sg_in64 {L : List Int} (h : isSgB L = true) : ∀ x ∈ L, InI64 x := fun x hx => by
  have := (isSgB_iff.1 h).bounds x hx
  unfold InI64; omega

theorem own_ne_arr {w : World} {base : Nat} {e t : TypeId} {v : Value} {n g : Nat} {xs cs : List Value} (h : w.ownsRow base e 1 v n xs) (ha : Arr w g t cs) (hne : t ≠ e) : v.ownBlock ≠ some g := by
  rcases h.2 with ⟨rfl, -⟩ | ⟨g', cap, cur, rfl, -, hg, -⟩
  · simp [Value.ownBlock]
  · intro e'
    simp only [Value.ownBlock, Option.some.injEq] at e'
    subst e'
    have h2 : some (Obj.cells cur e (0, 0)) = some (Obj.cells cs.toArray t (0, 0)) := hg.symm.trans ha
    injection h2 with h2
    injection h2 with _ h3 _
    exact hne h3.symm
theorem SlW.tail {w : World} {g c : Nat} {x : Value} {xs : List Value} (h : SlW w (some ⟨g, 0, none⟩) c (x :: xs)) (_hc : c ≠ 1) : SlW w (some ⟨g, 1, none⟩) (c - 1) xs := by
  refine ⟨?_, (fun e => by cases e), by have := h.le; simp at this; omega, by have := h.mx; omega⟩
  rcases h.sl with h1 | ⟨b, off, ha, hlt, hcell⟩
  · cases h1
  · injection ha with ha
    injection ha with h1 h2
    subst h1 h2
    exact .inr ⟨g, 1, rfl, hlt, fun i u hi => by have := hcell (i + 1) u (by simpa using hi); rw [show 0 + (i + 1) = 1 + i by omega] at this; exact this⟩
/-- The end of l3Bent: what the struct holds goes into the result. -/
theorem bent_fin {W w w7 : World} {N : Nat} {a : Option Addr} {len cap : Nat} {zs : List Int} {LL : List Int} {A : Option Addr} {C : Nat} (hl : LL.length ≤ 13) (hi : ∀ x ∈ LL, InI64 x) (hs : SlW w7 A C (LL.map (Value.int .i64))) (hf : ∀ p, A = some p → w.heap.size + 1 ≤ p.block)
    (hd : Dr W w7 N a len cap zs) (hg : w.grownBy w7 (some N)) (hWw : W.heap.size ≤ w.heap.size) (hNne : w.heap.size ≠ N) :
    DrewG W w N a len cap zs (.returned (.agg #[.slice A LL.length C])) (w7.setCell ⟨w.heap.size, 0, none⟩ (.slice A LL.length C)) :=
  ⟨LL, A, C, hl, hi, rfl, hs.grownN (grownBy_setCell w7 w.heap.size 0 _) (fun p hp => by have := hf p hp; omega), fun p hp => by have := hf p hp; omega, hd.grownR (grownBy_setCell _ w.heap.size 0 _) (fun k hk => by cases hk; exact ⟨hWw, hNne⟩), grown_more hg (grownBy_setCell _ w.heap.size 0 _) (fun k hk => by cases hk; exact .inl (Nat.le_refl _))⟩

set_option maxRecDepth 100000 in
set_option maxHeartbeats 6400000 in
theorem l3Bent_dr {W w : World} {N : Nat} {a : Option Addr} {len cap : Nat} {zs : List Int} (hd : Dr W w N a len cap zs) :
    Calls Try.prog 40 #[.pointer (some ⟨N, 0, none⟩)] w (DrewG W w N a len cap zs) := by
  obtain ⟨i0, hi, hz0, hz1, hz2⟩ := info_parts infoIntL
  have hN := hd.lt
  have hNne : w.heap.size ≠ N := by omega
  have hWw := hd.bel.size
  have hWN := hd.base
  have hR0 := Arr.new w 26 [.slice none 0 0]
  have hg0 := grown_alloc (grown_refl w (some N)) (.cells #[.slice none 0 0] 26)
  have hsz0 : (w.alloc (.cells #[.slice none 0 0] 26)).heap.size = w.heap.size + 1 := by simp
  have HZ := Lib.hid hsz0
  have c1 := l3Draw_dr (hd.alloc (.cells #[.slice none 0 0] 26))
  unfold DrewSg at c1
  rw [hsz0] at c1
  clear hsz0 hd
  go_enter Try.func40, Try.ntmps40
  go_wp2_with fail
  refine c1.mono ?_
  rintro e w1 ⟨L, v, hsg, rfl, ho1, hd1, hg1⟩
  obtain ⟨av, cv, rfl, -⟩ := row_open ho1
  have hR1 := hR0.grownN hg1 hNne
  have hgw1 := grown_trans hg0 hg1
  have hL12 := (isSgB_iff.1 hsg).len
  have hL1 := (isSgB_iff.1 hsg).pos
  have HI := Lib.hid (sg_in64 hsg)
  have hz1' := hR1.lt
  have hB1 := Arr.new w1 26 [.slice av L.length cv]
  have hb3o : (Value.slice av L.length cv).ownBlock ≠ some w1.heap.size := fun e => by have := (ho1.lt _ e).2; omega
  have HO1 := Lib.hid ho1
  have hN1 := hd1.lt
  clear c1 hg1 hg0 hR0 hsg ho1
  go_wp2_with fail
  refine (l1Below_dr (hd1.alloc _) 12 (by decide)).mono ?_
  rintro e w2 ⟨x, ⟨hx0, hx⟩, rfl, hd2, hg2⟩
  have hb3N : w1.heap.size ≠ N := by omega
  have hB2 := hB1.grownN hg2 hb3N
  have hR2 := (hR1.alloc _).grownN hg2 hNne
  have hgw2 := grown_trans (grown_alloc hgw1 _) hg2
  have hlo1 := HO1.out.lt
  have hown2 := row_kept (HO1.out.alloc (.cells #[.slice av L.length cv] 26)) fun j hj => hg2.block j (by have := (hlo1 j hj).2; simp; omega) (fun e => by injection e with e; have := (hlo1 j hj).1; omega)
  have hc2 : w2.cell? ⟨w1.heap.size, 0, none⟩ = some (.slice av L.length cv) := hB2.cell 0
  have hf2 := hB2.frozen 0
  have hcr2 : w2.cell? ⟨w.heap.size, 0, none⟩ = some (.slice none 0 0) := hR2.cell 0
  have hfr2 := hR2.frozen 0
  have hz2' : w1.heap.size + 1 ≤ w2.heap.size := by have := hg2.size; simp at this; omega
  have hdN2 := hd2.lt
  clear hB1 hR1 hgw1 HO1 hd1 hg2 hlo1
  have hcs : x = 0 ∨ x = 1 ∨ x = 2 ∨ (x == 0) = false ∧ (x == 1) = false ∧ (x == 2) = false := by
    by_cases h0 : x = 0
    · exact .inl h0
    · by_cases h1 : x = 1
      · exact .inr (.inl h1)
      · by_cases h2 : x = 2
        · exact .inr (.inr (.inl h2))
        · exact .inr (.inr (.inr ⟨by rw [beq_eq_false_iff_ne]; exact h0, by rw [beq_eq_false_iff_ne]; exact h1, by rw [beq_eq_false_iff_ne]; exact h2⟩))
  clear hx
  rcases hcs with rfl | rfl | rfl | ⟨hb0, hb1, hb2⟩
  · have hdd : Dr W ((w2.alloc (.cells #[.int .i64 0, .int .i64 61, .int .i64 12, .int .i64 (-3), .int .i64 60] 3)).drew) N a len cap zs := (hd2.alloc _).drewN 1
    have hBn : Arr ((w2.alloc (.cells #[.int .i64 0, .int .i64 61, .int .i64 12, .int .i64 (-3), .int .i64 60] 3)).drew) w1.heap.size 26 [.slice av L.length cv] := (hB2.alloc _).drew
    have hRn : Arr ((w2.alloc (.cells #[.int .i64 0, .int .i64 61, .int .i64 12, .int .i64 (-3), .int .i64 60] 3)).drew) w.heap.size 26 [.slice none 0 0] := (hR2.alloc _).drew
    have hgn : w.grownBy ((w2.alloc (.cells #[.int .i64 0, .int .i64 61, .int .i64 12, .int .i64 (-3), .int .i64 60] 3)).drew) (some N) := grown_drewN (grown_alloc hgw2 _) 1
    have hownn : ((w2.alloc (.cells #[.int .i64 0, .int .i64 61, .int .i64 12, .int .i64 (-3), .int .i64 60] 3)).drew).ownsRow (w.heap.size + 1) 3 1 (.slice av L.length cv) L.length (L.map (Value.int .i64)) := World.ownsRow.alloc (w := w2) hown2 _
    have hcn : ((w2.alloc (.cells #[.int .i64 0, .int .i64 61, .int .i64 12, .int .i64 (-3), .int .i64 60] 3)).drew).cell? ⟨w1.heap.size, 0, none⟩ = some (.slice av L.length cv) := hBn.cell 0
    have hbp : w2.heap.size < ((w2.alloc (.cells #[.int .i64 0, .int .i64 61, .int .i64 12, .int .i64 (-3), .int .i64 60] 3)).drew).heap.size := by show w2.heap.size < (w2.alloc _).heap.size; simp
    have hNp : w2.heap.size ≠ N := by omega
    have hcp : ∀ (i : Nat) (u : Value), (bent3.map (Value.int .i64))[i]? = some u → ((w2.alloc (.cells #[.int .i64 0, .int .i64 61, .int .i64 12, .int .i64 (-3), .int .i64 60] 3)).drew).cell? ⟨w2.heap.size, i, none⟩ = some u := fun i u h => ((Arr.new w2 3 (bent3.map (Value.int .i64))).cell i).trans h
    have cpk := l1PickInt_dr hdd bent3 w2.heap.size 5 (by decide) (by decide) hbp hNp hcp
    rw [show bent3.length = 5 from rfl] at cpk
    clear hd2 hB2 hR2 hown2 hcr2 hfr2 hf2 hcp
    go_wp2_with fail
    refine wp_region_held_drew (S := fun _ => True) (by kernel_rfl) trivial (fun hHeld => ?_)
    refine held_take 0 _ _ rfl (by kernel_rfl) (by kernel_rfl) (by kernel_rfl) (fun _ _ _ h => h) (by rfl) hHeld (fun w hSw => by (try dsimp only at hSw); go_simp; try with_reducible rfl) ?_
    (try simp only [Act.put, List.setIfInBounds_toArray, List.set_cons_zero, List.set_cons_succ, List.getElem_toArray, List.getElem_cons_zero])
    refine held_take 2 _ _ rfl (by kernel_rfl) (by kernel_rfl) (by kernel_rfl) (fun _ _ _ h => h) (by rfl) hHeld (fun w hSw => by (try dsimp only at hSw); go_simp; try with_reducible rfl) ?_
    (try simp only [Act.put, List.setIfInBounds_toArray, List.set_cons_zero, List.set_cons_succ, List.getElem_toArray, List.getElem_cons_succ, List.getElem_cons_zero])
    refine wpAnyH_ready (rs := [1, 3]) (by kernel_rfl) (by simp) ?_
    refine AllReadyH.cons rfl (fun K hK => ?_) (AllReadyH.cons rfl (fun K hK => ?_) AllReadyH.nil)
    · rw [if_pos (by rfl)]
      go_wp2_with fail
      refine hK.out _ _ (hHeld) (fun hHeld1 => ?_)
      clear hK K
      (try simp only [Act.put, List.setIfInBounds_toArray, List.set_cons_zero, List.set_cons_succ, List.getElem_toArray, List.getElem_cons_succ, List.getElem_cons_zero])
      refine wpAnyH_ready (rs := [3]) (by kernel_rfl) (by simp) ?_
      refine AllReadyH.cons rfl (fun K hK => ?_) AllReadyH.nil
      rw [if_pos (by rfl)]
      go_wp2_with fail
      refine hK.out _ _ (hHeld1) (fun hHeld2 => ?_)
      clear hK K
      (try simp only [Act.put, List.setIfInBounds_toArray, List.set_cons_zero, List.set_cons_succ, List.getElem_toArray, List.getElem_cons_succ, List.getElem_cons_zero])
      refine wpAnyH_ready (rs := [4]) (by kernel_rfl) (by simp) ?_
      refine AllReadyH.cons rfl (fun K hK => ?_) AllReadyH.nil
      rw [if_pos (by rfl)]
      go_wp2_with (first | (go_at_call 41; (with_reducible refine cpk.mono ?_); rintro e w4 ⟨y, hy, rfl, hd4, hg4⟩; have hy64 := bent3_in y hy; have hB4 := Arr.grownN hBn hg4 hb3N; have hc4 : w4.cell? ⟨w1.heap.size, 0, none⟩ = some (.slice av L.length cv) := hB4.cell 0; have hc4n : (w4.alloc (.cells #[.int .i64 y] 3)).cell? ⟨w1.heap.size, 0, none⟩ = some (.slice av L.length cv) := (hB4.alloc _).cell 0; have hown4 := row_kept hownn (fun j hj => hg4.block j (hownn.lt j hj).2 (fun e => by injection e with e; have := (hownn.lt j hj).1; omega)); have hs4 : w2.heap.size + 1 ≤ w4.heap.size := (by have := hg4.size; simp at this; omega)))
      refine hK.out _ _ (trivial) (fun hHeld3 => ?_)
      clear hK K
      (try simp only [Act.put, List.setIfInBounds_toArray, List.set_cons_zero, List.set_cons_succ, List.getElem_toArray, List.getElem_cons_succ, List.getElem_cons_zero])
      refine wpAnyH_ready (rs := [5]) (by kernel_rfl) (by simp) ?_
      refine AllReadyH.cons rfl (fun K hK => ?_) AllReadyH.nil
      rw [if_pos (by rfl)]
      go_wp2_with fail
      refine hK.out _ _ (hHeld3) (fun hHeld4 => ?_)
      clear hK K
      (try simp only [Act.put, List.setIfInBounds_toArray, List.set_cons_zero, List.set_cons_succ, List.getElem_toArray, List.getElem_cons_succ, List.getElem_cons_zero])
      refine wpAnyH_ready (rs := [6]) (by kernel_rfl) (by simp) ?_
      refine AllReadyH.cons rfl (fun K hK => ?_) AllReadyH.nil
      rw [if_pos (by rfl)]
      refine wp_append_own _ (.tmp 11) (.tmp 15) 24 (by rfl) (w.heap.size + 1) 3 i0 (Value.int .i64 0) 1 8 Try.underlying24 hi hz0 hz1 hz2 rfl (by decide) (.slice av L.length cv) L.length (L.map (Value.int .i64)) (by rfl) (hown4.alloc _) ⟨w4.heap.size, 0, none⟩ 1 1 [.int .i64 y] (by rfl) (by rfl) (World.news_of_block (cs := #[.int .i64 y]) (t := 3) (fr := (0, 0)) (heap_alloc_new w4 _)) (by simp [Value.oneCell']) (by unfold maxLen; omega) (by omega) (by simp; omega) ?_; intro v6 w6 hown6 hgr6 hnil6; obtain ⟨a6, c6, rfl, r6⟩ := row_open hown6
      have hlow := hown4.lt
      have hBB := Arr.grownRow (Arr.alloc hB4 (.cells #[.int .i64 y] 3)) hgr6 (fun j hj => by have := hlow j hj; intro e; subst e; exact hb3o hj)
      have hd6 : Dr W w6 N a len cap zs := (hd4.alloc _).grownR hgr6 (fun j hj => by have := (hlow j hj).1; omega)
      have hgw6 : w.grownBy w6 (some N) := grown_more (grown_alloc (grown_trans hgn hg4) _) hgr6 (fun j hj => .inl (by have := (hlow j hj).1; omega))
      have hR6 := Arr.grownRow (Arr.alloc (Arr.grownN hRn hg4 hNne) (.cells #[.int .i64 y] 3)) hgr6 (fun j hj => by have := (hlow j hj).1; omega)
      have hc6 : w6.cell? ⟨w1.heap.size, 0, none⟩ = some (.slice av L.length cv) := hBB.cell 0
      have hf6 := hBB.frozen 0
      refine hK.out _ _ (trivial) (fun hHeld5 => ?_)
      clear hK K
      (try simp only [Act.put, List.setIfInBounds_toArray, List.set_cons_zero, List.set_cons_succ, List.getElem_toArray, List.getElem_cons_succ, List.getElem_cons_zero])
      refine held_take 7 _ _ rfl (by kernel_rfl) (by kernel_rfl) (by kernel_rfl) (fun _ _ _ h => h) (by rfl) hHeld5 (fun w hSw => by (try dsimp only at hSw); go_simp; try with_reducible rfl) ?_
      (try simp only [Act.put, List.setIfInBounds_toArray, List.set_cons_zero, List.set_cons_succ, List.getElem_toArray, List.getElem_cons_succ, List.getElem_cons_zero])
      refine wpAnyH_ready (rs := [8]) (by kernel_rfl) (by simp) ?_
      refine AllReadyH.cons rfl (fun K hK => ?_) AllReadyH.nil
      rw [if_pos (by rfl)]
      go_wp2_with fail
      refine hK.out _ _ (hHeld5) (fun hHeld6 => ?_)
      clear hK K
      (try simp only [Act.put, List.setIfInBounds_toArray, List.set_cons_zero, List.set_cons_succ, List.getElem_toArray, List.getElem_cons_succ, List.getElem_cons_zero])
      refine wpAnyH_done (by kernel_rfl) ?_ _
      have hcB := World.cell?_setCell_same w6 ⟨w1.heap.size, 0, none⟩ (.slice a6 (L.length + 1) c6) hc6
      have hcr6 : (w6.setCell ⟨w1.heap.size, 0, none⟩ (.slice a6 (L.length + 1) c6)).cell? ⟨w.heap.size, 0, none⟩ = some (.slice none 0 0) := (World.cell?_setCell_other _ _ _ _ (by first | (simp; done) | (simp; omega))).trans (hR6.cell 0)
      have hfr6 := hR6.frozen 0
      have hne6 := own_ne_arr hown6 hBB (by decide)
      have hS7 := r6.slw.grownN (grownBy_setCell w6 w1.heap.size 0 (.slice a6 (L.length + 1) c6)) (fun p hp => by subst hp; exact fun e => hne6 (by rw [← e]; rfl))
      have hlo6 := hown6.lt
      have hfin := bent_fin (LL := L ++ [y]) (C := c6) (by rw [List.length_append, List.length_singleton]; omega) (fun x hx => by
        rcases List.mem_append.1 hx with h | h
        · exact HI.out x h
        · rw [List.mem_singleton.1 h]; exact hy64) (by simpa using hS7) (fun p hp => by subst hp; exact (hlo6 p.block rfl).1) (hd6.grownR (grownBy_setCell w6 w1.heap.size 0 (.slice a6 (L.length + 1) c6)) (fun k hk => by cases hk; omega)) (grown_more hgw6 (grownBy_setCell w6 w1.heap.size 0 (.slice a6 (L.length + 1) c6)) (fun k hk => by cases hk; exact .inl (by omega))) hWw hNne
      rw [List.length_append, List.length_singleton] at hfin
      have hcf := World.cell?_setCell_same (w6.setCell ⟨w1.heap.size, 0, none⟩ (.slice a6 (L.length + 1) c6)) ⟨w.heap.size, 0, none⟩ (.slice a6 (L.length + 1) c6) hcr6
      have HF := Lib.hid hfin
      clear hfin hS7 hlo6 hne6 hown6 hgr6 hd6 hgw6 hBB hR6 hlow hc6
      go_wp2_with fail
      exact bodyPost_ret (v := .agg #[.slice a6 (L.length + 1) c6]) (by simp [results, Try.results40, go_sem, hcf]) rfl HF.out
    · rw [if_pos (by rfl)]
      go_wp2_with fail
      refine hK.out _ _ (hHeld) (fun hHeld1 => ?_)
      clear hK K
      (try simp only [Act.put, List.setIfInBounds_toArray, List.set_cons_zero, List.set_cons_succ, List.getElem_toArray, List.getElem_cons_succ, List.getElem_cons_zero])
      refine wpAnyH_ready (rs := [1, 4]) (by kernel_rfl) (by simp) ?_
      refine AllReadyH.cons rfl (fun K hK => ?_) (AllReadyH.cons rfl (fun K hK => ?_) AllReadyH.nil)
      · rw [if_pos (by rfl)]
        go_wp2_with fail
        refine hK.out _ _ (hHeld1) (fun hHeld2 => ?_)
        clear hK K
        (try simp only [Act.put, List.setIfInBounds_toArray, List.set_cons_zero, List.set_cons_succ, List.getElem_toArray, List.getElem_cons_succ, List.getElem_cons_zero])
        refine wpAnyH_ready (rs := [4]) (by kernel_rfl) (by simp) ?_
        refine AllReadyH.cons rfl (fun K hK => ?_) AllReadyH.nil
        rw [if_pos (by rfl)]
        go_wp2_with (first | (go_at_call 41; (with_reducible refine cpk.mono ?_); rintro e w4 ⟨y, hy, rfl, hd4, hg4⟩; have hy64 := bent3_in y hy; have hB4 := Arr.grownN hBn hg4 hb3N; have hc4 : w4.cell? ⟨w1.heap.size, 0, none⟩ = some (.slice av L.length cv) := hB4.cell 0; have hc4n : (w4.alloc (.cells #[.int .i64 y] 3)).cell? ⟨w1.heap.size, 0, none⟩ = some (.slice av L.length cv) := (hB4.alloc _).cell 0; have hown4 := row_kept hownn (fun j hj => hg4.block j (hownn.lt j hj).2 (fun e => by injection e with e; have := (hownn.lt j hj).1; omega)); have hs4 : w2.heap.size + 1 ≤ w4.heap.size := (by have := hg4.size; simp at this; omega)))
        refine hK.out _ _ (trivial) (fun hHeld3 => ?_)
        clear hK K
        (try simp only [Act.put, List.setIfInBounds_toArray, List.set_cons_zero, List.set_cons_succ, List.getElem_toArray, List.getElem_cons_succ, List.getElem_cons_zero])
        refine wpAnyH_ready (rs := [5]) (by kernel_rfl) (by simp) ?_
        refine AllReadyH.cons rfl (fun K hK => ?_) AllReadyH.nil
        rw [if_pos (by rfl)]
        go_wp2_with fail
        refine hK.out _ _ (hHeld3) (fun hHeld4 => ?_)
        clear hK K
        (try simp only [Act.put, List.setIfInBounds_toArray, List.set_cons_zero, List.set_cons_succ, List.getElem_toArray, List.getElem_cons_succ, List.getElem_cons_zero])
        refine wpAnyH_ready (rs := [6]) (by kernel_rfl) (by simp) ?_
        refine AllReadyH.cons rfl (fun K hK => ?_) AllReadyH.nil
        rw [if_pos (by rfl)]
        refine wp_append_own _ (.tmp 11) (.tmp 15) 24 (by rfl) (w.heap.size + 1) 3 i0 (Value.int .i64 0) 1 8 Try.underlying24 hi hz0 hz1 hz2 rfl (by decide) (.slice av L.length cv) L.length (L.map (Value.int .i64)) (by rfl) (hown4.alloc _) ⟨w4.heap.size, 0, none⟩ 1 1 [.int .i64 y] (by rfl) (by rfl) (World.news_of_block (cs := #[.int .i64 y]) (t := 3) (fr := (0, 0)) (heap_alloc_new w4 _)) (by simp [Value.oneCell']) (by unfold maxLen; omega) (by omega) (by simp; omega) ?_; intro v6 w6 hown6 hgr6 hnil6; obtain ⟨a6, c6, rfl, r6⟩ := row_open hown6
        have hlow := hown4.lt
        have hBB := Arr.grownRow (Arr.alloc hB4 (.cells #[.int .i64 y] 3)) hgr6 (fun j hj => by have := hlow j hj; intro e; subst e; exact hb3o hj)
        have hd6 : Dr W w6 N a len cap zs := (hd4.alloc _).grownR hgr6 (fun j hj => by have := (hlow j hj).1; omega)
        have hgw6 : w.grownBy w6 (some N) := grown_more (grown_alloc (grown_trans hgn hg4) _) hgr6 (fun j hj => .inl (by have := (hlow j hj).1; omega))
        have hR6 := Arr.grownRow (Arr.alloc (Arr.grownN hRn hg4 hNne) (.cells #[.int .i64 y] 3)) hgr6 (fun j hj => by have := (hlow j hj).1; omega)
        have hc6 : w6.cell? ⟨w1.heap.size, 0, none⟩ = some (.slice av L.length cv) := hBB.cell 0
        have hf6 := hBB.frozen 0
        refine hK.out _ _ (trivial) (fun hHeld5 => ?_)
        clear hK K
        (try simp only [Act.put, List.setIfInBounds_toArray, List.set_cons_zero, List.set_cons_succ, List.getElem_toArray, List.getElem_cons_succ, List.getElem_cons_zero])
        refine held_take 7 _ _ rfl (by kernel_rfl) (by kernel_rfl) (by kernel_rfl) (fun _ _ _ h => h) (by rfl) hHeld5 (fun w hSw => by (try dsimp only at hSw); go_simp; try with_reducible rfl) ?_
        (try simp only [Act.put, List.setIfInBounds_toArray, List.set_cons_zero, List.set_cons_succ, List.getElem_toArray, List.getElem_cons_succ, List.getElem_cons_zero])
        refine wpAnyH_ready (rs := [8]) (by kernel_rfl) (by simp) ?_
        refine AllReadyH.cons rfl (fun K hK => ?_) AllReadyH.nil
        rw [if_pos (by rfl)]
        go_wp2_with fail
        refine hK.out _ _ (hHeld5) (fun hHeld6 => ?_)
        clear hK K
        (try simp only [Act.put, List.setIfInBounds_toArray, List.set_cons_zero, List.set_cons_succ, List.getElem_toArray, List.getElem_cons_succ, List.getElem_cons_zero])
        refine wpAnyH_done (by kernel_rfl) ?_ _
        have hcB := World.cell?_setCell_same w6 ⟨w1.heap.size, 0, none⟩ (.slice a6 (L.length + 1) c6) hc6
        have hcr6 : (w6.setCell ⟨w1.heap.size, 0, none⟩ (.slice a6 (L.length + 1) c6)).cell? ⟨w.heap.size, 0, none⟩ = some (.slice none 0 0) := (World.cell?_setCell_other _ _ _ _ (by first | (simp; done) | (simp; omega))).trans (hR6.cell 0)
        have hfr6 := hR6.frozen 0
        have hne6 := own_ne_arr hown6 hBB (by decide)
        have hS7 := r6.slw.grownN (grownBy_setCell w6 w1.heap.size 0 (.slice a6 (L.length + 1) c6)) (fun p hp => by subst hp; exact fun e => hne6 (by rw [← e]; rfl))
        have hlo6 := hown6.lt
        have hfin := bent_fin (LL := L ++ [y]) (C := c6) (by rw [List.length_append, List.length_singleton]; omega) (fun x hx => by
          rcases List.mem_append.1 hx with h | h
          · exact HI.out x h
          · rw [List.mem_singleton.1 h]; exact hy64) (by simpa using hS7) (fun p hp => by subst hp; exact (hlo6 p.block rfl).1) (hd6.grownR (grownBy_setCell w6 w1.heap.size 0 (.slice a6 (L.length + 1) c6)) (fun k hk => by cases hk; omega)) (grown_more hgw6 (grownBy_setCell w6 w1.heap.size 0 (.slice a6 (L.length + 1) c6)) (fun k hk => by cases hk; exact .inl (by omega))) hWw hNne
        rw [List.length_append, List.length_singleton] at hfin
        have hcf := World.cell?_setCell_same (w6.setCell ⟨w1.heap.size, 0, none⟩ (.slice a6 (L.length + 1) c6)) ⟨w.heap.size, 0, none⟩ (.slice a6 (L.length + 1) c6) hcr6
        have HF := Lib.hid hfin
        clear hfin hS7 hlo6 hne6 hown6 hgr6 hd6 hgw6 hBB hR6 hlow hc6
        go_wp2_with fail
        exact bodyPost_ret (v := .agg #[.slice a6 (L.length + 1) c6]) (by simp [results, Try.results40, go_sem, hcf]) rfl HF.out
      · rw [if_pos (by rfl)]
        go_wp2_with (first | (go_at_call 41; (with_reducible refine cpk.mono ?_); rintro e w4 ⟨y, hy, rfl, hd4, hg4⟩; have hy64 := bent3_in y hy; have hB4 := Arr.grownN hBn hg4 hb3N; have hc4 : w4.cell? ⟨w1.heap.size, 0, none⟩ = some (.slice av L.length cv) := hB4.cell 0; have hc4n : (w4.alloc (.cells #[.int .i64 y] 3)).cell? ⟨w1.heap.size, 0, none⟩ = some (.slice av L.length cv) := (hB4.alloc _).cell 0; have hown4 := row_kept hownn (fun j hj => hg4.block j (hownn.lt j hj).2 (fun e => by injection e with e; have := (hownn.lt j hj).1; omega)); have hs4 : w2.heap.size + 1 ≤ w4.heap.size := (by have := hg4.size; simp at this; omega)))
        refine hK.out _ _ (trivial) (fun hHeld2 => ?_)
        clear hK K
        (try simp only [Act.put, List.setIfInBounds_toArray, List.set_cons_zero, List.set_cons_succ, List.getElem_toArray, List.getElem_cons_succ, List.getElem_cons_zero])
        refine wpAnyH_ready (rs := [1, 5]) (by kernel_rfl) (by simp) ?_
        refine AllReadyH.cons rfl (fun K hK => ?_) (AllReadyH.cons rfl (fun K hK => ?_) AllReadyH.nil)
        · rw [if_pos (by rfl)]
          go_wp2_with fail
          refine hK.out _ _ (hHeld2) (fun hHeld3 => ?_)
          clear hK K
          (try simp only [Act.put, List.setIfInBounds_toArray, List.set_cons_zero, List.set_cons_succ, List.getElem_toArray, List.getElem_cons_succ, List.getElem_cons_zero])
          refine wpAnyH_ready (rs := [5]) (by kernel_rfl) (by simp) ?_
          refine AllReadyH.cons rfl (fun K hK => ?_) AllReadyH.nil
          rw [if_pos (by rfl)]
          go_wp2_with fail
          refine hK.out _ _ (hHeld3) (fun hHeld4 => ?_)
          clear hK K
          (try simp only [Act.put, List.setIfInBounds_toArray, List.set_cons_zero, List.set_cons_succ, List.getElem_toArray, List.getElem_cons_succ, List.getElem_cons_zero])
          refine wpAnyH_ready (rs := [6]) (by kernel_rfl) (by simp) ?_
          refine AllReadyH.cons rfl (fun K hK => ?_) AllReadyH.nil
          rw [if_pos (by rfl)]
          refine wp_append_own _ (.tmp 11) (.tmp 15) 24 (by rfl) (w.heap.size + 1) 3 i0 (Value.int .i64 0) 1 8 Try.underlying24 hi hz0 hz1 hz2 rfl (by decide) (.slice av L.length cv) L.length (L.map (Value.int .i64)) (by rfl) (hown4.alloc _) ⟨w4.heap.size, 0, none⟩ 1 1 [.int .i64 y] (by rfl) (by rfl) (World.news_of_block (cs := #[.int .i64 y]) (t := 3) (fr := (0, 0)) (heap_alloc_new w4 _)) (by simp [Value.oneCell']) (by unfold maxLen; omega) (by omega) (by simp; omega) ?_; intro v6 w6 hown6 hgr6 hnil6; obtain ⟨a6, c6, rfl, r6⟩ := row_open hown6
          have hlow := hown4.lt
          have hBB := Arr.grownRow (Arr.alloc hB4 (.cells #[.int .i64 y] 3)) hgr6 (fun j hj => by have := hlow j hj; intro e; subst e; exact hb3o hj)
          have hd6 : Dr W w6 N a len cap zs := (hd4.alloc _).grownR hgr6 (fun j hj => by have := (hlow j hj).1; omega)
          have hgw6 : w.grownBy w6 (some N) := grown_more (grown_alloc (grown_trans hgn hg4) _) hgr6 (fun j hj => .inl (by have := (hlow j hj).1; omega))
          have hR6 := Arr.grownRow (Arr.alloc (Arr.grownN hRn hg4 hNne) (.cells #[.int .i64 y] 3)) hgr6 (fun j hj => by have := (hlow j hj).1; omega)
          have hc6 : w6.cell? ⟨w1.heap.size, 0, none⟩ = some (.slice av L.length cv) := hBB.cell 0
          have hf6 := hBB.frozen 0
          refine hK.out _ _ (trivial) (fun hHeld5 => ?_)
          clear hK K
          (try simp only [Act.put, List.setIfInBounds_toArray, List.set_cons_zero, List.set_cons_succ, List.getElem_toArray, List.getElem_cons_succ, List.getElem_cons_zero])
          refine held_take 7 _ _ rfl (by kernel_rfl) (by kernel_rfl) (by kernel_rfl) (fun _ _ _ h => h) (by rfl) hHeld5 (fun w hSw => by (try dsimp only at hSw); go_simp; try with_reducible rfl) ?_
          (try simp only [Act.put, List.setIfInBounds_toArray, List.set_cons_zero, List.set_cons_succ, List.getElem_toArray, List.getElem_cons_succ, List.getElem_cons_zero])
          refine wpAnyH_ready (rs := [8]) (by kernel_rfl) (by simp) ?_
          refine AllReadyH.cons rfl (fun K hK => ?_) AllReadyH.nil
          rw [if_pos (by rfl)]
          go_wp2_with fail
          refine hK.out _ _ (hHeld5) (fun hHeld6 => ?_)
          clear hK K
          (try simp only [Act.put, List.setIfInBounds_toArray, List.set_cons_zero, List.set_cons_succ, List.getElem_toArray, List.getElem_cons_succ, List.getElem_cons_zero])
          refine wpAnyH_done (by kernel_rfl) ?_ _
          have hcB := World.cell?_setCell_same w6 ⟨w1.heap.size, 0, none⟩ (.slice a6 (L.length + 1) c6) hc6
          have hcr6 : (w6.setCell ⟨w1.heap.size, 0, none⟩ (.slice a6 (L.length + 1) c6)).cell? ⟨w.heap.size, 0, none⟩ = some (.slice none 0 0) := (World.cell?_setCell_other _ _ _ _ (by first | (simp; done) | (simp; omega))).trans (hR6.cell 0)
          have hfr6 := hR6.frozen 0
          have hne6 := own_ne_arr hown6 hBB (by decide)
          have hS7 := r6.slw.grownN (grownBy_setCell w6 w1.heap.size 0 (.slice a6 (L.length + 1) c6)) (fun p hp => by subst hp; exact fun e => hne6 (by rw [← e]; rfl))
          have hlo6 := hown6.lt
          have hfin := bent_fin (LL := L ++ [y]) (C := c6) (by rw [List.length_append, List.length_singleton]; omega) (fun x hx => by
            rcases List.mem_append.1 hx with h | h
            · exact HI.out x h
            · rw [List.mem_singleton.1 h]; exact hy64) (by simpa using hS7) (fun p hp => by subst hp; exact (hlo6 p.block rfl).1) (hd6.grownR (grownBy_setCell w6 w1.heap.size 0 (.slice a6 (L.length + 1) c6)) (fun k hk => by cases hk; omega)) (grown_more hgw6 (grownBy_setCell w6 w1.heap.size 0 (.slice a6 (L.length + 1) c6)) (fun k hk => by cases hk; exact .inl (by omega))) hWw hNne
          rw [List.length_append, List.length_singleton] at hfin
          have hcf := World.cell?_setCell_same (w6.setCell ⟨w1.heap.size, 0, none⟩ (.slice a6 (L.length + 1) c6)) ⟨w.heap.size, 0, none⟩ (.slice a6 (L.length + 1) c6) hcr6
          have HF := Lib.hid hfin
          clear hfin hS7 hlo6 hne6 hown6 hgr6 hd6 hgw6 hBB hR6 hlow hc6
          go_wp2_with fail
          exact bodyPost_ret (v := .agg #[.slice a6 (L.length + 1) c6]) (by simp [results, Try.results40, go_sem, hcf]) rfl HF.out
        · rw [if_pos (by rfl)]
          go_wp2_with fail
          refine hK.out _ _ (hHeld2) (fun hHeld3 => ?_)
          clear hK K
          (try simp only [Act.put, List.setIfInBounds_toArray, List.set_cons_zero, List.set_cons_succ, List.getElem_toArray, List.getElem_cons_succ, List.getElem_cons_zero])
          refine wpAnyH_ready (rs := [1]) (by kernel_rfl) (by simp) ?_
          refine AllReadyH.cons rfl (fun K hK => ?_) AllReadyH.nil
          rw [if_pos (by rfl)]
          go_wp2_with fail
          refine hK.out _ _ (hHeld3) (fun hHeld4 => ?_)
          clear hK K
          (try simp only [Act.put, List.setIfInBounds_toArray, List.set_cons_zero, List.set_cons_succ, List.getElem_toArray, List.getElem_cons_succ, List.getElem_cons_zero])
          refine wpAnyH_ready (rs := [6]) (by kernel_rfl) (by simp) ?_
          refine AllReadyH.cons rfl (fun K hK => ?_) AllReadyH.nil
          rw [if_pos (by rfl)]
          refine wp_append_own _ (.tmp 11) (.tmp 15) 24 (by rfl) (w.heap.size + 1) 3 i0 (Value.int .i64 0) 1 8 Try.underlying24 hi hz0 hz1 hz2 rfl (by decide) (.slice av L.length cv) L.length (L.map (Value.int .i64)) (by rfl) (hown4.alloc _) ⟨w4.heap.size, 0, none⟩ 1 1 [.int .i64 y] (by rfl) (by rfl) (World.news_of_block (cs := #[.int .i64 y]) (t := 3) (fr := (0, 0)) (heap_alloc_new w4 _)) (by simp [Value.oneCell']) (by unfold maxLen; omega) (by omega) (by simp; omega) ?_; intro v6 w6 hown6 hgr6 hnil6; obtain ⟨a6, c6, rfl, r6⟩ := row_open hown6
          have hlow := hown4.lt
          have hBB := Arr.grownRow (Arr.alloc hB4 (.cells #[.int .i64 y] 3)) hgr6 (fun j hj => by have := hlow j hj; intro e; subst e; exact hb3o hj)
          have hd6 : Dr W w6 N a len cap zs := (hd4.alloc _).grownR hgr6 (fun j hj => by have := (hlow j hj).1; omega)
          have hgw6 : w.grownBy w6 (some N) := grown_more (grown_alloc (grown_trans hgn hg4) _) hgr6 (fun j hj => .inl (by have := (hlow j hj).1; omega))
          have hR6 := Arr.grownRow (Arr.alloc (Arr.grownN hRn hg4 hNne) (.cells #[.int .i64 y] 3)) hgr6 (fun j hj => by have := (hlow j hj).1; omega)
          have hc6 : w6.cell? ⟨w1.heap.size, 0, none⟩ = some (.slice av L.length cv) := hBB.cell 0
          have hf6 := hBB.frozen 0
          refine hK.out _ _ (trivial) (fun hHeld5 => ?_)
          clear hK K
          (try simp only [Act.put, List.setIfInBounds_toArray, List.set_cons_zero, List.set_cons_succ, List.getElem_toArray, List.getElem_cons_succ, List.getElem_cons_zero])
          refine held_take 7 _ _ rfl (by kernel_rfl) (by kernel_rfl) (by kernel_rfl) (fun _ _ _ h => h) (by rfl) hHeld5 (fun w hSw => by (try dsimp only at hSw); go_simp; try with_reducible rfl) ?_
          (try simp only [Act.put, List.setIfInBounds_toArray, List.set_cons_zero, List.set_cons_succ, List.getElem_toArray, List.getElem_cons_succ, List.getElem_cons_zero])
          refine wpAnyH_ready (rs := [8]) (by kernel_rfl) (by simp) ?_
          refine AllReadyH.cons rfl (fun K hK => ?_) AllReadyH.nil
          rw [if_pos (by rfl)]
          go_wp2_with fail
          refine hK.out _ _ (hHeld5) (fun hHeld6 => ?_)
          clear hK K
          (try simp only [Act.put, List.setIfInBounds_toArray, List.set_cons_zero, List.set_cons_succ, List.getElem_toArray, List.getElem_cons_succ, List.getElem_cons_zero])
          refine wpAnyH_done (by kernel_rfl) ?_ _
          have hcB := World.cell?_setCell_same w6 ⟨w1.heap.size, 0, none⟩ (.slice a6 (L.length + 1) c6) hc6
          have hcr6 : (w6.setCell ⟨w1.heap.size, 0, none⟩ (.slice a6 (L.length + 1) c6)).cell? ⟨w.heap.size, 0, none⟩ = some (.slice none 0 0) := (World.cell?_setCell_other _ _ _ _ (by first | (simp; done) | (simp; omega))).trans (hR6.cell 0)
          have hfr6 := hR6.frozen 0
          have hne6 := own_ne_arr hown6 hBB (by decide)
          have hS7 := r6.slw.grownN (grownBy_setCell w6 w1.heap.size 0 (.slice a6 (L.length + 1) c6)) (fun p hp => by subst hp; exact fun e => hne6 (by rw [← e]; rfl))
          have hlo6 := hown6.lt
          have hfin := bent_fin (LL := L ++ [y]) (C := c6) (by rw [List.length_append, List.length_singleton]; omega) (fun x hx => by
            rcases List.mem_append.1 hx with h | h
            · exact HI.out x h
            · rw [List.mem_singleton.1 h]; exact hy64) (by simpa using hS7) (fun p hp => by subst hp; exact (hlo6 p.block rfl).1) (hd6.grownR (grownBy_setCell w6 w1.heap.size 0 (.slice a6 (L.length + 1) c6)) (fun k hk => by cases hk; omega)) (grown_more hgw6 (grownBy_setCell w6 w1.heap.size 0 (.slice a6 (L.length + 1) c6)) (fun k hk => by cases hk; exact .inl (by omega))) hWw hNne
          rw [List.length_append, List.length_singleton] at hfin
          have hcf := World.cell?_setCell_same (w6.setCell ⟨w1.heap.size, 0, none⟩ (.slice a6 (L.length + 1) c6)) ⟨w.heap.size, 0, none⟩ (.slice a6 (L.length + 1) c6) hcr6
          have HF := Lib.hid hfin
          clear hfin hS7 hlo6 hne6 hown6 hgr6 hd6 hgw6 hBB hR6 hlow hc6
          go_wp2_with fail
          exact bodyPost_ret (v := .agg #[.slice a6 (L.length + 1) c6]) (by simp [results, Try.results40, go_sem, hcf]) rfl HF.out
  · obtain ⟨g, hgav⟩ : ∃ g, av = some ⟨g, 0, none⟩ := by
      rcases hown2.2 with ⟨e, h0⟩ | ⟨g, cp, cur, e, -⟩
      · omega
      · cases e; exact ⟨g, rfl⟩
    subst hgav
    obtain ⟨x0, R, rfl⟩ : ∃ x0 R, L = x0 :: R := by
      cases L with
      | nil => simp at hL1
      | cons x0 R => exact ⟨x0, R, rfl⟩
    have hne2 := own_ne_arr hown2 hB2 (by decide)
    have hS2 := (SlW.of_owns hown2).1
    have hlo2 := (hown2.lt g rfl).1
    have hcl := hS2.le
    rw [List.length_map, List.length_cons] at hcl
    by_cases hc1 : cv = 1
    · subst hc1
      obtain rfl : R = [] := by cases R with
        | nil => rfl
        | cons y R => simp at hcl
      have hfin := bent_fin (LL := []) (A := some ⟨g, 0, none⟩) (C := 0) (by simp) (by simp) ⟨SlV.nil _ _, (fun e => by cases e), by simp, Nat.zero_le _⟩ (fun p hp => by cases hp; exact hlo2) (hd2.grownR (grownBy_setCell w2 w1.heap.size 0 (.slice (some ⟨g, 0, none⟩) 0 0)) (fun k hk => by cases hk; omega)) (grown_more hgw2 (grownBy_setCell w2 w1.heap.size 0 (.slice (some ⟨g, 0, none⟩) 0 0)) (fun k hk => by cases hk; exact .inl (by omega))) hWw hNne
      have hcB := World.cell?_setCell_same w2 ⟨w1.heap.size, 0, none⟩ (.slice (some ⟨g, 0, none⟩) 0 0) hc2
      have hcr6 : (w2.setCell ⟨w1.heap.size, 0, none⟩ (.slice (some ⟨g, 0, none⟩) 0 0)).cell? ⟨w.heap.size, 0, none⟩ = some (.slice none 0 0) := (World.cell?_setCell_other _ _ _ _ (by first | (simp; done) | (simp; omega))).trans hcr2
      have hcf := World.cell?_setCell_same _ ⟨w.heap.size, 0, none⟩ (.slice (some ⟨g, 0, none⟩) 0 0) hcr6
      have HF := Lib.hid hfin
      clear hfin hown2 hd2 hgw2 hB2 hR2 hS2 hcl
      go_wp2_with fail
      exact bodyPost_ret (v := .agg #[.slice (some ⟨g, 0, none⟩) 0 0]) (by simp [results, Try.results40, go_sem, hcf]) rfl HF.out
    · have hS3 := (hS2.tail hc1).grownN (grownBy_setCell w2 w1.heap.size 0 (.slice (some ⟨g, 1, none⟩) R.length (cv - 1))) (fun p hp => by cases hp; exact fun e => hne2 (by show some g = _; rw [← e]))
      have hfin := bent_fin (LL := R) (A := some ⟨g, 1, none⟩) (C := cv - 1) (by simp at hL12; omega) (fun x hx => HI.out x (by simp [hx])) hS3 (fun p hp => by cases hp; exact hlo2) (hd2.grownR (grownBy_setCell w2 w1.heap.size 0 (.slice (some ⟨g, 1, none⟩) R.length (cv - 1))) (fun k hk => by cases hk; omega)) (grown_more hgw2 (grownBy_setCell w2 w1.heap.size 0 (.slice (some ⟨g, 1, none⟩) R.length (cv - 1))) (fun k hk => by cases hk; exact .inl (by omega))) hWw hNne
      have hcB := World.cell?_setCell_same w2 ⟨w1.heap.size, 0, none⟩ (.slice (some ⟨g, 1, none⟩) R.length (cv - 1)) hc2
      have hcr6 : (w2.setCell ⟨w1.heap.size, 0, none⟩ (.slice (some ⟨g, 1, none⟩) R.length (cv - 1))).cell? ⟨w.heap.size, 0, none⟩ = some (.slice none 0 0) := (World.cell?_setCell_other _ _ _ _ (by first | (simp; done) | (simp; omega))).trans hcr2
      have hcf := World.cell?_setCell_same _ ⟨w.heap.size, 0, none⟩ (.slice (some ⟨g, 1, none⟩) R.length (cv - 1)) hcr6
      have HF := Lib.hid hfin
      have hcc : cv ≠ 1 := hc1
      clear hfin hown2 hd2 hgw2 hB2 hR2 hS2 hS3
      go_wp2_with fail
      exact bodyPost_ret (v := .agg #[.slice (some ⟨g, 1, none⟩) R.length (cv - 1)]) (by simp [results, Try.results40, go_sem, hcf]) rfl HF.out
  · have hNp : w2.heap.size ≠ N := by omega
    have cpk := l1PickInt_dr (hd2.alloc (.cells #[.int .i64 0, .int .i64 59, .int .i64 4] 3)) bent4 w2.heap.size 3 (by decide) (by decide) (by simp) hNp (fun i u h => ((Arr.new w2 3 (bent4.map (Value.int .i64))).cell i).trans h)
    rw [show bent4.length = 3 from rfl] at cpk
    have hB3 := hB2.alloc (.cells #[.int .i64 0, .int .i64 59, .int .i64 4] 3)
    have hR3 := hR2.alloc (.cells #[.int .i64 0, .int .i64 59, .int .i64 4] 3)
    have hgw3 := grown_alloc hgw2 (.cells #[.int .i64 0, .int .i64 59, .int .i64 4] 3)
    clear hd2 hB2 hR2 hown2 hc2 hf2 hcr2 hfr2 hgw2
    go_wp2_with fail
    refine cpk.mono ?_
    rintro e w4 ⟨y, hy, rfl, hd4, hg4⟩
    have hy64 := bent4_in y hy
    have hBB := (Arr.grownN hB3 hg4 hb3N).alloc (.cells #[.int .i64 y, .int .i64 60] 3)
    have hRR := (Arr.grownN hR3 hg4 hNne).alloc (.cells #[.int .i64 y, .int .i64 60] 3)
    have hs4 : w2.heap.size + 1 ≤ w4.heap.size := by have := hg4.size; simp at this; omega
    have hown5 : (w4.alloc (.cells #[.int .i64 y, .int .i64 60] 3)).ownsRow (w.heap.size + 1) 3 1 (.slice (some ⟨w4.heap.size, 0, none⟩) 2 2) 2 ([y, 60].map (Value.int .i64)) := World.ownsRow_lit w4 #[.int .i64 y, .int .i64 60] 2 (by omega) (by unfold maxLen; omega) rfl
    have hS5 := SlW.of_owns hown5
    have hS7 := hS5.1.grownN (grownBy_setCell _ w1.heap.size 0 (.slice (some ⟨w4.heap.size, 0, none⟩) 2 2)) (fun p hp => by cases hp; show w4.heap.size ≠ _; omega)
    have hd5 := hd4.alloc (.cells #[.int .i64 y, .int .i64 60] 3)
    have hg5 := grown_alloc (grown_trans hgw3 hg4) (.cells #[.int .i64 y, .int .i64 60] 3)
    have hfin := bent_fin (LL := [y, 60]) (A := some ⟨w4.heap.size, 0, none⟩) (C := 2) (by simp) (fun x hx => by
      rcases List.mem_cons.1 hx with h | h
      · rw [h]; exact hy64
      · rw [List.mem_singleton.1 h]; unfold InI64; omega) hS7 hS5.2 (hd5.grownR (grownBy_setCell _ w1.heap.size 0 (.slice (some ⟨w4.heap.size, 0, none⟩) 2 2)) (fun k hk => by cases hk; omega)) (grown_more hg5 (grownBy_setCell _ w1.heap.size 0 (.slice (some ⟨w4.heap.size, 0, none⟩) 2 2)) (fun k hk => by cases hk; exact .inl (by omega))) hWw hNne
    have hc5 : (w4.alloc (.cells #[.int .i64 y, .int .i64 60] 3)).cell? ⟨w1.heap.size, 0, none⟩ = some (.slice av L.length cv) := hBB.cell 0
    have hf5 := hBB.frozen 0
    have hcB := World.cell?_setCell_same _ ⟨w1.heap.size, 0, none⟩ (.slice (some ⟨w4.heap.size, 0, none⟩) 2 2) hc5
    have hcr6 : ((w4.alloc (.cells #[.int .i64 y, .int .i64 60] 3)).setCell ⟨w1.heap.size, 0, none⟩ (.slice (some ⟨w4.heap.size, 0, none⟩) 2 2)).cell? ⟨w.heap.size, 0, none⟩ = some (.slice none 0 0) := (World.cell?_setCell_other _ _ _ _ (by first | (simp; done) | (simp; omega))).trans (hRR.cell 0)
    have hfr6 := hRR.frozen 0
    have hcf := World.cell?_setCell_same _ ⟨w.heap.size, 0, none⟩ (.slice (some ⟨w4.heap.size, 0, none⟩) 2 2) hcr6
    have HF := Lib.hid hfin
    clear hfin hown5 hd5 hd4 hg4 hg5 hgw3 hS5 hS7 hBB hRR hB3 hR3 cpk
    go_wp2_with fail
    exact bodyPost_ret (v := .agg #[.slice (some ⟨w4.heap.size, 0, none⟩) 2 2]) (by simp [results, Try.results40, go_sem, hcf]) rfl HF.out
  · have hS2 := SlW.of_owns hown2
    have hfin := bent_fin (LL := L) (by omega) HI.out hS2.1 hS2.2 hd2 hgw2 hWw hNne
    have hcf := World.cell?_setCell_same w2 ⟨w.heap.size, 0, none⟩ (.slice av L.length cv) hcr2
    have HF := Lib.hid hfin
    clear hfin hown2 hd2 hgw2 hB2 hR2 hS2
    go_wp2_with fail
    exact bodyPost_ret (v := .agg #[.slice av L.length cv]) (by simp [results, Try.results40, go_sem, hcf]) rfl HF.out
end Go.Proofs.Ytljfiiohiolbnaa

/-
  CONTRACTS of the draws of chapter 3, third part: what the laws call.
-/
namespace Go.Proofs.Ytljfiiohiolbnaa
open Go Go.RowKit

/-- A semigroup drawn: a list of ints in a struct, somewhere in new memory; with a number; two of them. -/
def DSg (W : World) (e : Ending) (w' : World) : Prop :=
  ∃ (L : List Int) (av : Option Addr) (cv : Nat), L.length ≤ 13 ∧ (∀ x ∈ L, InI64 x) ∧ e = .returned (.agg #[.slice av L.length cv]) ∧ SlW w' av cv (L.map (Value.int .i64)) ∧ Below W.heap.size W w'
def DSgi (W : World) (e : Ending) (w' : World) : Prop :=
  ∃ (L : List Int) (av : Option Addr) (cv : Nat) (n : Int), L.length ≤ 13 ∧ (∀ x ∈ L, InI64 x) ∧ InI64 n ∧ e = .returned (.tuple #[.agg #[.slice av L.length cv], .int .i64 n]) ∧ SlW w' av cv (L.map (Value.int .i64)) ∧ Below W.heap.size W w'
def DSg2 (W : World) (e : Ending) (w' : World) : Prop :=
  ∃ (L M : List Int) (av bv : Option Addr) (cv dv : Nat), L.length ≤ 13 ∧ M.length ≤ 13 ∧ (∀ x ∈ L, InI64 x) ∧ (∀ x ∈ M, InI64 x) ∧ e = .returned (.tuple #[.agg #[.slice av L.length cv], .agg #[.slice bv M.length dv]]) ∧ SlW w' av cv (L.map (Value.int .i64)) ∧ SlW w' bv dv (M.map (Value.int .i64)) ∧ Below W.heap.size W w'

theorem SlW.grownBy {w w' : World} {a : Option Addr} {c k : Nat} {xs : List Value} (h : SlW w a c xs) (hg : w.grownBy w' (some k)) {lo : Nat} (hf : ∀ p, a = some p → lo ≤ p.block) (hk : k < lo) : SlW w' a c xs :=
  h.grownN hg fun p hp => by have := hf p hp; omega



end Go.Proofs.Ytljfiiohiolbnaa
