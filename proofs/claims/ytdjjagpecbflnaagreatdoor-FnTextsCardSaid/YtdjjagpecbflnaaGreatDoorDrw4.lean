/-
  CONTRACTS of the draws of chapter 3, second part: bent semigroups.
-/
import Derived.Test.YtdjjagpecbflnaaGreatDoorDrw3
namespace Go.Proofs.YtdjjagpecbflnaaGreatDoor
open Go Go.RowKit

theorem SlW.grownN {w w' : World} {a : Option Addr} {c N : Nat} {xs : List Value} (h : SlW w a c xs) (hg : w.grownBy w' (some N)) (hf : ∀ p, a = some p → p.block ≠ N) : SlW w' a c xs := by
  refine ⟨?_, h.nil0, h.le, h.mx⟩
  rcases h.sl with h1 | ⟨b, off, ha, hlt, hc⟩
  · exact .inl h1
  · exact .inr ⟨b, off, ha, Nat.lt_of_lt_of_le hlt hg.size, fun i u hi => (World.cell?_of_block (a := ⟨b, off + i, none⟩) (hg.block b hlt (fun e => hf _ ha (by injection e)))).trans (hc i u hi)⟩
theorem SlW.of_owns {w : World} {base : Nat} {a : Option Addr} {n c : Nat} {xs : List Value} (h : w.ownsRow base 3 1 (.slice a n c) n xs) : SlW w a c xs ∧ ∀ p, a = some p → base ≤ p.block := by
  obtain ⟨a', c', e, hr⟩ := row_open h
  cases e
  exact ⟨hr.slw, fun p hp => by subst hp; exact (h.lt p.block rfl).1⟩

/-- A draw made a list of ints in a struct: somewhere in new memory. -/
def DrewG (W w : World) (N : Nat) (a : Option Addr) (len cap : Nat) (zs : List Int) (e : Ending) (w' : World) : Prop :=
  ∃ (L : List Int) (av : Option Addr) (cv : Nat), L.length ≤ 13 ∧ (∀ x ∈ L, InI64 x) ∧ e = .returned (.agg #[.slice av L.length cv]) ∧ SlW w' av cv (L.map (Value.int .i64)) ∧ (∀ p, av = some p → w.heap.size ≤ p.block) ∧ Dr W w' N a len cap zs ∧ w.grownBy w' (some N)
def bent3 : List Int := [0, 61, 12, -3, 60]
theorem bent3_in : ∀ x ∈ bent3, InI64 x := by unfold InI64; decide
def bent4 : List Int := [0, 59, 4]
theorem bent4_in : ∀ x ∈ bent4, InI64 x := by unfold InI64; decide
theorem sg_in64 {L : List Int} (h : isSgB L = true) : ∀ x ∈ L, InI64 x := fun x hx => by
  have := (isSgB_iff.1 h).bounds x hx
  unfold InI64; omega

theorem own_ne_arr {w : World} {base : Nat} {e t : TypeId} {v : Value} {n g : Nat} {xs cs : List Value} (h : w.ownsRow base e 1 v n xs) (ha : Arr w g t cs) (hne : t ≠ e) : v.ownBlock ≠ some g := by
  rcases h.2 with ⟨rfl, -⟩ | ⟨g', cap, cur, rfl, -, hg, -⟩
  · simp [Value.ownBlock]
  · intro e'
    simp only [Value.ownBlock, Option.some.injEq] at e'
    subst e'
    have h2 : some (Obj.cells cur e (0, 0)) = some (Obj.cells cs.toArray t (0, 0)) := hg.symm.trans ha
    injection h2 with h2
    injection h2 with _ h3 _
    exact hne h3.symm
theorem SlW.tail {w : World} {g c : Nat} {x : Value} {xs : List Value} (h : SlW w (some ⟨g, 0, none⟩) c (x :: xs)) (_hc : c ≠ 1) : SlW w (some ⟨g, 1, none⟩) (c - 1) xs := by
  refine ⟨?_, (fun e => by cases e), by have := h.le; simp at this; omega, by have := h.mx; omega⟩
  rcases h.sl with h1 | ⟨b, off, ha, hlt, hcell⟩
  · cases h1
  · injection ha with ha
    injection ha with h1 h2
    subst h1 h2
    exact .inr ⟨g, 1, rfl, hlt, fun i u hi => by have := hcell (i + 1) u (by simpa using hi); rw [show 0 + (i + 1) = 1 + i by omega] at this; exact this⟩
/-- The end of l3Bent: what the struct holds goes into the result. -/
theorem bent_fin {W w w7 : World} {N : Nat} {a : Option Addr} {len cap : Nat} {zs : List Int} {LL : List Int} {A : Option Addr} {C : Nat} (hl : LL.length ≤ 13) (hi : ∀ x ∈ LL, InI64 x) (hs : SlW w7 A C (LL.map (Value.int .i64))) (hf : ∀ p, A = some p → w.heap.size + 1 ≤ p.block)
    (hd : Dr W w7 N a len cap zs) (hg : w.grownBy w7 (some N)) (hWw : W.heap.size ≤ w.heap.size) (hNne : w.heap.size ≠ N) :
    DrewG W w N a len cap zs (.returned (.agg #[.slice A LL.length C])) (w7.setCell ⟨w.heap.size, 0, none⟩ (.slice A LL.length C)) :=
  ⟨LL, A, C, hl, hi, rfl, hs.grownN (grownBy_setCell w7 w.heap.size 0 _) (fun p hp => by have := hf p hp; omega), fun p hp => by have := hf p hp; omega, hd.grownR (grownBy_setCell _ w.heap.size 0 _) (fun k hk => by cases hk; exact ⟨hWw, hNne⟩), grown_more hg (grownBy_setCell _ w.heap.size 0 _) (fun k hk => by cases hk; exact .inl (Nat.le_refl _))⟩

set_option maxRecDepth 100000 in
set_option maxHeartbeats 6400000 in
theorem l3Bent_dr {W w : World} {N : Nat} {a : Option Addr} {len cap : Nat} {zs : List Int} (hd : Dr W w N a len cap zs) :
    Calls Tryz.prog 19 #[.pointer (some ⟨N, 0, none⟩)] w (DrewG W w N a len cap zs) := by
  obtain ⟨i0, hi, hz0, hz1, hz2⟩ := info_parts infoIntL
  have hN := hd.lt
  have hNne : w.heap.size ≠ N := by omega
  have hWw := hd.bel.size
  have hWN := hd.base
  have hR0 := Arr.new w 26 [.slice none 0 0]
  have hg0 := grown_alloc (grown_refl w (some N)) (.cells #[.slice none 0 0] 26)
  have hsz0 : (w.alloc (.cells #[.slice none 0 0] 26)).heap.size = w.heap.size + 1 := by simp
  have HZ := Lib.hid hsz0
  have c1 := l3Draw_dr (hd.alloc (.cells #[.slice none 0 0] 26))
  unfold DrewSg at c1
  rw [hsz0] at c1
  clear hsz0 hd
  go_enter Tryz.func19, Tryz.ntmps19
  go_wp2_with fail
  refine c1.mono ?_
  rintro e w1 ⟨L, v, hsg, rfl, ho1, hd1, hg1⟩
  obtain ⟨av, cv, rfl, -⟩ := row_open ho1
  have hR1 := hR0.grownN hg1 hNne
  have hgw1 := grown_trans hg0 hg1
  have hL12 := (isSgB_iff.1 hsg).len
  have hL1 := (isSgB_iff.1 hsg).pos
  have HI := Lib.hid (sg_in64 hsg)
  have hz1' := hR1.lt
  have hB1 := Arr.new w1 26 [.slice av L.length cv]
  have hb3o : (Value.slice av L.length cv).ownBlock ≠ some w1.heap.size := fun e => by have := (ho1.lt _ e).2; omega
  have HO1 := Lib.hid ho1
  have hN1 := hd1.lt
  clear c1 hg1 hg0 hR0 hsg ho1
  go_wp2_with fail
  refine (l1Below_dr (hd1.alloc _) 12 (by decide)).mono ?_
  rintro e w2 ⟨x, ⟨hx0, hx⟩, rfl, hd2, hg2⟩
  have hb3N : w1.heap.size ≠ N := by omega
  have hB2 := hB1.grownN hg2 hb3N
  have hR2 := (hR1.alloc _).grownN hg2 hNne
  have hgw2 := grown_trans (grown_alloc hgw1 _) hg2
  have hlo1 := HO1.out.lt
  have hown2 := row_kept (HO1.out.alloc (.cells #[.slice av L.length cv] 26)) fun j hj => hg2.block j (by have := (hlo1 j hj).2; simp; omega) (fun e => by injection e with e; have := (hlo1 j hj).1; omega)
  have hc2 : w2.cell? ⟨w1.heap.size, 0, none⟩ = some (.slice av L.length cv) := hB2.cell 0
  have hf2 := hB2.frozen 0
  have hcr2 : w2.cell? ⟨w.heap.size, 0, none⟩ = some (.slice none 0 0) := hR2.cell 0
  have hfr2 := hR2.frozen 0
  have hz2' : w1.heap.size + 1 ≤ w2.heap.size := by have := hg2.size; simp at this; omega
  have hdN2 := hd2.lt
  clear hB1 hR1 hgw1 HO1 hd1 hg2 hlo1
  have hcs : x = 0 ∨ x = 1 ∨ x = 2 ∨ (x == 0) = false ∧ (x == 1) = false ∧ (x == 2) = false := by
    by_cases h0 : x = 0
    · exact .inl h0
    · by_cases h1 : x = 1
      · exact .inr (.inl h1)
      · by_cases h2 : x = 2
        · exact .inr (.inr (.inl h2))
        · exact .inr (.inr (.inr ⟨by rw [beq_eq_false_iff_ne]; exact h0, by rw [beq_eq_false_iff_ne]; exact h1, by rw [beq_eq_false_iff_ne]; exact h2⟩))
  clear hx
  rcases hcs with rfl | rfl | rfl | ⟨hb0, hb1, hb2⟩
  · have hdd : Dr W ((w2.alloc (.cells #[.int .i64 0, .int .i64 61, .int .i64 12, .int .i64 (-3), .int .i64 60] 3)).drew) N a len cap zs := (hd2.alloc _).drewN 1
    have hBn : Arr ((w2.alloc (.cells #[.int .i64 0, .int .i64 61, .int .i64 12, .int .i64 (-3), .int .i64 60] 3)).drew) w1.heap.size 26 [.slice av L.length cv] := (hB2.alloc _).drew
    have hRn : Arr ((w2.alloc (.cells #[.int .i64 0, .int .i64 61, .int .i64 12, .int .i64 (-3), .int .i64 60] 3)).drew) w.heap.size 26 [.slice none 0 0] := (hR2.alloc _).drew
    have hgn : w.grownBy ((w2.alloc (.cells #[.int .i64 0, .int .i64 61, .int .i64 12, .int .i64 (-3), .int .i64 60] 3)).drew) (some N) := grown_drewN (grown_alloc hgw2 _) 1
    have hownn : ((w2.alloc (.cells #[.int .i64 0, .int .i64 61, .int .i64 12, .int .i64 (-3), .int .i64 60] 3)).drew).ownsRow (w.heap.size + 1) 3 1 (.slice av L.length cv) L.length (L.map (Value.int .i64)) := World.ownsRow.alloc (w := w2) hown2 _
    have hcn : ((w2.alloc (.cells #[.int .i64 0, .int .i64 61, .int .i64 12, .int .i64 (-3), .int .i64 60] 3)).drew).cell? ⟨w1.heap.size, 0, none⟩ = some (.slice av L.length cv) := hBn.cell 0
    have hbp : w2.heap.size < ((w2.alloc (.cells #[.int .i64 0, .int .i64 61, .int .i64 12, .int .i64 (-3), .int .i64 60] 3)).drew).heap.size := by show w2.heap.size < (w2.alloc _).heap.size; simp
    have hNp : w2.heap.size ≠ N := by omega
    have hcp : ∀ (i : Nat) (u : Value), (bent3.map (Value.int .i64))[i]? = some u → ((w2.alloc (.cells #[.int .i64 0, .int .i64 61, .int .i64 12, .int .i64 (-3), .int .i64 60] 3)).drew).cell? ⟨w2.heap.size, i, none⟩ = some u := fun i u h => ((Arr.new w2 3 (bent3.map (Value.int .i64))).cell i).trans h
    have cpk := l1PickInt_dr hdd bent3 w2.heap.size 5 (by decide) (by decide) hbp hNp hcp
    rw [show bent3.length = 5 from rfl] at cpk
    clear hd2 hB2 hR2 hown2 hcr2 hfr2 hf2 hcp
    go_wp2_with fail
    refine wp_region_held_drew (S := fun _ => True) (by kernel_rfl) trivial (fun hHeld => ?_)
    refine held_take 0 _ _ rfl (by kernel_rfl) (by kernel_rfl) (by kernel_rfl) (fun _ _ _ h => h) (by rfl) hHeld (fun w hSw => by (try dsimp only at hSw); go_simp; try with_reducible rfl) ?_
    (try simp only [Act.put, List.setIfInBounds_toArray, List.set_cons_zero, List.set_cons_succ, List.getElem_toArray, List.getElem_cons_zero])
    refine held_take 2 _ _ rfl (by kernel_rfl) (by kernel_rfl) (by kernel_rfl) (fun _ _ _ h => h) (by rfl) hHeld (fun w hSw => by (try dsimp only at hSw); go_simp; try with_reducible rfl) ?_
    (try simp only [Act.put, List.setIfInBounds_toArray, List.set_cons_zero, List.set_cons_succ, List.getElem_toArray, List.getElem_cons_succ, List.getElem_cons_zero])
    refine wpAnyH_ready (rs := [1, 3]) (by kernel_rfl) (by simp) ?_
    refine AllReadyH.cons rfl (fun K hK => ?_) (AllReadyH.cons rfl (fun K hK => ?_) AllReadyH.nil)
    · rw [if_pos (by rfl)]
      go_wp2_with fail
      refine hK.out _ _ (hHeld) (fun hHeld1 => ?_)
      clear hK K
      (try simp only [Act.put, List.setIfInBounds_toArray, List.set_cons_zero, List.set_cons_succ, List.getElem_toArray, List.getElem_cons_succ, List.getElem_cons_zero])
      refine wpAnyH_ready (rs := [3]) (by kernel_rfl) (by simp) ?_
      refine AllReadyH.cons rfl (fun K hK => ?_) AllReadyH.nil
      rw [if_pos (by rfl)]
      go_wp2_with fail
      refine hK.out _ _ (hHeld1) (fun hHeld2 => ?_)
      clear hK K
      (try simp only [Act.put, List.setIfInBounds_toArray, List.set_cons_zero, List.set_cons_succ, List.getElem_toArray, List.getElem_cons_succ, List.getElem_cons_zero])
      refine wpAnyH_ready (rs := [4]) (by kernel_rfl) (by simp) ?_
      refine AllReadyH.cons rfl (fun K hK => ?_) AllReadyH.nil
      rw [if_pos (by rfl)]
      go_wp2_with (first | (go_at_call 41; (with_reducible refine cpk.mono ?_); rintro e w4 ⟨y, hy, rfl, hd4, hg4⟩; have hy64 := bent3_in y hy; have hB4 := Arr.grownN hBn hg4 hb3N; have hc4 : w4.cell? ⟨w1.heap.size, 0, none⟩ = some (.slice av L.length cv) := hB4.cell 0; have hc4n : (w4.alloc (.cells #[.int .i64 y] 3)).cell? ⟨w1.heap.size, 0, none⟩ = some (.slice av L.length cv) := (hB4.alloc _).cell 0; have hown4 := row_kept hownn (fun j hj => hg4.block j (hownn.lt j hj).2 (fun e => by injection e with e; have := (hownn.lt j hj).1; omega)); have hs4 : w2.heap.size + 1 ≤ w4.heap.size := (by have := hg4.size; simp at this; omega)))
      refine hK.out _ _ (trivial) (fun hHeld3 => ?_)
      clear hK K
      (try simp only [Act.put, List.setIfInBounds_toArray, List.set_cons_zero, List.set_cons_succ, List.getElem_toArray, List.getElem_cons_succ, List.getElem_cons_zero])
      refine wpAnyH_ready (rs := [5]) (by kernel_rfl) (by simp) ?_
      refine AllReadyH.cons rfl (fun K hK => ?_) AllReadyH.nil
      rw [if_pos (by rfl)]
      go_wp2_with fail
      refine hK.out _ _ (hHeld3) (fun hHeld4 => ?_)
      clear hK K
      (try simp only [Act.put, List.setIfInBounds_toArray, List.set_cons_zero, List.set_cons_succ, List.getElem_toArray, List.getElem_cons_succ, List.getElem_cons_zero])
      refine wpAnyH_ready (rs := [6]) (by kernel_rfl) (by simp) ?_
      refine AllReadyH.cons rfl (fun K hK => ?_) AllReadyH.nil
      rw [if_pos (by rfl)]
      refine wp_append_own _ (.tmp 11) (.tmp 15) 24 (by rfl) (w.heap.size + 1) 3 i0 (Value.int .i64 0) 1 8 Tryz.underlying24 hi hz0 hz1 hz2 rfl (by decide) (.slice av L.length cv) L.length (L.map (Value.int .i64)) (by rfl) (hown4.alloc _) ⟨w4.heap.size, 0, none⟩ 1 1 [.int .i64 y] (by rfl) (by rfl) (World.news_of_block (cs := #[.int .i64 y]) (t := 3) (fr := (0, 0)) (heap_alloc_new w4 _)) (by simp [Value.oneCell']) (by unfold maxLen; omega) (by omega) (by simp; omega) ?_; intro v6 w6 hown6 hgr6 hnil6; obtain ⟨a6, c6, rfl, r6⟩ := row_open hown6
      have hlow := hown4.lt
      have hBB := Arr.grownRow (Arr.alloc hB4 (.cells #[.int .i64 y] 3)) hgr6 (fun j hj => by have := hlow j hj; intro e; subst e; exact hb3o hj)
      have hd6 : Dr W w6 N a len cap zs := (hd4.alloc _).grownR hgr6 (fun j hj => by have := (hlow j hj).1; omega)
      have hgw6 : w.grownBy w6 (some N) := grown_more (grown_alloc (grown_trans hgn hg4) _) hgr6 (fun j hj => .inl (by have := (hlow j hj).1; omega))
      have hR6 := Arr.grownRow (Arr.alloc (Arr.grownN hRn hg4 hNne) (.cells #[.int .i64 y] 3)) hgr6 (fun j hj => by have := (hlow j hj).1; omega)
      have hc6 : w6.cell? ⟨w1.heap.size, 0, none⟩ = some (.slice av L.length cv) := hBB.cell 0
      have hf6 := hBB.frozen 0
      refine hK.out _ _ (trivial) (fun hHeld5 => ?_)
      clear hK K
      (try simp only [Act.put, List.setIfInBounds_toArray, List.set_cons_zero, List.set_cons_succ, List.getElem_toArray, List.getElem_cons_succ, List.getElem_cons_zero])
      refine held_take 7 _ _ rfl (by kernel_rfl) (by kernel_rfl) (by kernel_rfl) (fun _ _ _ h => h) (by rfl) hHeld5 (fun w hSw => by (try dsimp only at hSw); go_simp; try with_reducible rfl) ?_
      (try simp only [Act.put, List.setIfInBounds_toArray, List.set_cons_zero, List.set_cons_succ, List.getElem_toArray, List.getElem_cons_succ, List.getElem_cons_zero])
      refine wpAnyH_ready (rs := [8]) (by kernel_rfl) (by simp) ?_
      refine AllReadyH.cons rfl (fun K hK => ?_) AllReadyH.nil
      rw [if_pos (by rfl)]
      go_wp2_with fail
      refine hK.out _ _ (hHeld5) (fun hHeld6 => ?_)
      clear hK K
      (try simp only [Act.put, List.setIfInBounds_toArray, List.set_cons_zero, List.set_cons_succ, List.getElem_toArray, List.getElem_cons_succ, List.getElem_cons_zero])
      refine wpAnyH_done (by kernel_rfl) ?_ _
      have hcB := World.cell?_setCell_same w6 ⟨w1.heap.size, 0, none⟩ (.slice a6 (L.length + 1) c6) hc6
      have hcr6 : (w6.setCell ⟨w1.heap.size, 0, none⟩ (.slice a6 (L.length + 1) c6)).cell? ⟨w.heap.size, 0, none⟩ = some (.slice none 0 0) := (World.cell?_setCell_other _ _ _ _ (by first | (simp; done) | (simp; omega))).trans (hR6.cell 0)
      have hfr6 := hR6.frozen 0
      have hne6 := own_ne_arr hown6 hBB (by decide)
      have hS7 := r6.slw.grownN (grownBy_setCell w6 w1.heap.size 0 (.slice a6 (L.length + 1) c6)) (fun p hp => by subst hp; exact fun e => hne6 (by rw [← e]; rfl))
      have hlo6 := hown6.lt
      have hfin := bent_fin (LL := L ++ [y]) (C := c6) (by rw [List.length_append, List.length_singleton]; omega) (fun x hx => by
        rcases List.mem_append.1 hx with h | h
        · exact HI.out x h
        · rw [List.mem_singleton.1 h]; exact hy64) (by simpa using hS7) (fun p hp => by subst hp; exact (hlo6 p.block rfl).1) (hd6.grownR (grownBy_setCell w6 w1.heap.size 0 (.slice a6 (L.length + 1) c6)) (fun k hk => by cases hk; omega)) (grown_more hgw6 (grownBy_setCell w6 w1.heap.size 0 (.slice a6 (L.length + 1) c6)) (fun k hk => by cases hk; exact .inl (by omega))) hWw hNne
      rw [List.length_append, List.length_singleton] at hfin
      have hcf := World.cell?_setCell_same (w6.setCell ⟨w1.heap.size, 0, none⟩ (.slice a6 (L.length + 1) c6)) ⟨w.heap.size, 0, none⟩ (.slice a6 (L.length + 1) c6) hcr6
      have HF := Lib.hid hfin
      clear hfin hS7 hlo6 hne6 hown6 hgr6 hd6 hgw6 hBB hR6 hlow hc6
      go_wp2_with fail
      exact bodyPost_ret (v := .agg #[.slice a6 (L.length + 1) c6]) (by simp [results, Tryz.results19, go_sem, hcf]) rfl HF.out
    · rw [if_pos (by rfl)]
      go_wp2_with fail
      refine hK.out _ _ (hHeld) (fun hHeld1 => ?_)
      clear hK K
      (try simp only [Act.put, List.setIfInBounds_toArray, List.set_cons_zero, List.set_cons_succ, List.getElem_toArray, List.getElem_cons_succ, List.getElem_cons_zero])
      refine wpAnyH_ready (rs := [1, 4]) (by kernel_rfl) (by simp) ?_
      refine AllReadyH.cons rfl (fun K hK => ?_) (AllReadyH.cons rfl (fun K hK => ?_) AllReadyH.nil)
      · rw [if_pos (by rfl)]
        go_wp2_with fail
        refine hK.out _ _ (hHeld1) (fun hHeld2 => ?_)
        clear hK K
        (try simp only [Act.put, List.setIfInBounds_toArray, List.set_cons_zero, List.set_cons_succ, List.getElem_toArray, List.getElem_cons_succ, List.getElem_cons_zero])
        refine wpAnyH_ready (rs := [4]) (by kernel_rfl) (by simp) ?_
        refine AllReadyH.cons rfl (fun K hK => ?_) AllReadyH.nil
        rw [if_pos (by rfl)]
        go_wp2_with (first | (go_at_call 41; (with_reducible refine cpk.mono ?_); rintro e w4 ⟨y, hy, rfl, hd4, hg4⟩; have hy64 := bent3_in y hy; have hB4 := Arr.grownN hBn hg4 hb3N; have hc4 : w4.cell? ⟨w1.heap.size, 0, none⟩ = some (.slice av L.length cv) := hB4.cell 0; have hc4n : (w4.alloc (.cells #[.int .i64 y] 3)).cell? ⟨w1.heap.size, 0, none⟩ = some (.slice av L.length cv) := (hB4.alloc _).cell 0; have hown4 := row_kept hownn (fun j hj => hg4.block j (hownn.lt j hj).2 (fun e => by injection e with e; have := (hownn.lt j hj).1; omega)); have hs4 : w2.heap.size + 1 ≤ w4.heap.size := (by have := hg4.size; simp at this; omega)))
        refine hK.out _ _ (trivial) (fun hHeld3 => ?_)
        clear hK K
        (try simp only [Act.put, List.setIfInBounds_toArray, List.set_cons_zero, List.set_cons_succ, List.getElem_toArray, List.getElem_cons_succ, List.getElem_cons_zero])
        refine wpAnyH_ready (rs := [5]) (by kernel_rfl) (by simp) ?_
        refine AllReadyH.cons rfl (fun K hK => ?_) AllReadyH.nil
        rw [if_pos (by rfl)]
        go_wp2_with fail
        refine hK.out _ _ (hHeld3) (fun hHeld4 => ?_)
        clear hK K
        (try simp only [Act.put, List.setIfInBounds_toArray, List.set_cons_zero, List.set_cons_succ, List.getElem_toArray, List.getElem_cons_succ, List.getElem_cons_zero])
        refine wpAnyH_ready (rs := [6]) (by kernel_rfl) (by simp) ?_
        refine AllReadyH.cons rfl (fun K hK => ?_) AllReadyH.nil
        rw [if_pos (by rfl)]
        refine wp_append_own _ (.tmp 11) (.tmp 15) 24 (by rfl) (w.heap.size + 1) 3 i0 (Value.int .i64 0) 1 8 Tryz.underlying24 hi hz0 hz1 hz2 rfl (by decide) (.slice av L.length cv) L.length (L.map (Value.int .i64)) (by rfl) (hown4.alloc _) ⟨w4.heap.size, 0, none⟩ 1 1 [.int .i64 y] (by rfl) (by rfl) (World.news_of_block (cs := #[.int .i64 y]) (t := 3) (fr := (0, 0)) (heap_alloc_new w4 _)) (by simp [Value.oneCell']) (by unfold maxLen; omega) (by omega) (by simp; omega) ?_; intro v6 w6 hown6 hgr6 hnil6; obtain ⟨a6, c6, rfl, r6⟩ := row_open hown6
        have hlow := hown4.lt
        have hBB := Arr.grownRow (Arr.alloc hB4 (.cells #[.int .i64 y] 3)) hgr6 (fun j hj => by have := hlow j hj; intro e; subst e; exact hb3o hj)
        have hd6 : Dr W w6 N a len cap zs := (hd4.alloc _).grownR hgr6 (fun j hj => by have := (hlow j hj).1; omega)
        have hgw6 : w.grownBy w6 (some N) := grown_more (grown_alloc (grown_trans hgn hg4) _) hgr6 (fun j hj => .inl (by have := (hlow j hj).1; omega))
        have hR6 := Arr.grownRow (Arr.alloc (Arr.grownN hRn hg4 hNne) (.cells #[.int .i64 y] 3)) hgr6 (fun j hj => by have := (hlow j hj).1; omega)
        have hc6 : w6.cell? ⟨w1.heap.size, 0, none⟩ = some (.slice av L.length cv) := hBB.cell 0
        have hf6 := hBB.frozen 0
        refine hK.out _ _ (trivial) (fun hHeld5 => ?_)
        clear hK K
        (try simp only [Act.put, List.setIfInBounds_toArray, List.set_cons_zero, List.set_cons_succ, List.getElem_toArray, List.getElem_cons_succ, List.getElem_cons_zero])
        refine held_take 7 _ _ rfl (by kernel_rfl) (by kernel_rfl) (by kernel_rfl) (fun _ _ _ h => h) (by rfl) hHeld5 (fun w hSw => by (try dsimp only at hSw); go_simp; try with_reducible rfl) ?_
        (try simp only [Act.put, List.setIfInBounds_toArray, List.set_cons_zero, List.set_cons_succ, List.getElem_toArray, List.getElem_cons_succ, List.getElem_cons_zero])
        refine wpAnyH_ready (rs := [8]) (by kernel_rfl) (by simp) ?_
        refine AllReadyH.cons rfl (fun K hK => ?_) AllReadyH.nil
        rw [if_pos (by rfl)]
        go_wp2_with fail
        refine hK.out _ _ (hHeld5) (fun hHeld6 => ?_)
        clear hK K
        (try simp only [Act.put, List.setIfInBounds_toArray, List.set_cons_zero, List.set_cons_succ, List.getElem_toArray, List.getElem_cons_succ, List.getElem_cons_zero])
        refine wpAnyH_done (by kernel_rfl) ?_ _
        have hcB := World.cell?_setCell_same w6 ⟨w1.heap.size, 0, none⟩ (.slice a6 (L.length + 1) c6) hc6
        have hcr6 : (w6.setCell ⟨w1.heap.size, 0, none⟩ (.slice a6 (L.length + 1) c6)).cell? ⟨w.heap.size, 0, none⟩ = some (.slice none 0 0) := (World.cell?_setCell_other _ _ _ _ (by first | (simp; done) | (simp; omega))).trans (hR6.cell 0)
        have hfr6 := hR6.frozen 0
        have hne6 := own_ne_arr hown6 hBB (by decide)
        have hS7 := r6.slw.grownN (grownBy_setCell w6 w1.heap.size 0 (.slice a6 (L.length + 1) c6)) (fun p hp => by subst hp; exact fun e => hne6 (by rw [← e]; rfl))
        have hlo6 := hown6.lt
        have hfin := bent_fin (LL := L ++ [y]) (C := c6) (by rw [List.length_append, List.length_singleton]; omega) (fun x hx => by
          rcases List.mem_append.1 hx with h | h
          · exact HI.out x h
          · rw [List.mem_singleton.1 h]; exact hy64) (by simpa using hS7) (fun p hp => by subst hp; exact (hlo6 p.block rfl).1) (hd6.grownR (grownBy_setCell w6 w1.heap.size 0 (.slice a6 (L.length + 1) c6)) (fun k hk => by cases hk; omega)) (grown_more hgw6 (grownBy_setCell w6 w1.heap.size 0 (.slice a6 (L.length + 1) c6)) (fun k hk => by cases hk; exact .inl (by omega))) hWw hNne
        rw [List.length_append, List.length_singleton] at hfin
        have hcf := World.cell?_setCell_same (w6.setCell ⟨w1.heap.size, 0, none⟩ (.slice a6 (L.length + 1) c6)) ⟨w.heap.size, 0, none⟩ (.slice a6 (L.length + 1) c6) hcr6
        have HF := Lib.hid hfin
        clear hfin hS7 hlo6 hne6 hown6 hgr6 hd6 hgw6 hBB hR6 hlow hc6
        go_wp2_with fail
        exact bodyPost_ret (v := .agg #[.slice a6 (L.length + 1) c6]) (by simp [results, Tryz.results19, go_sem, hcf]) rfl HF.out
      · rw [if_pos (by rfl)]
        go_wp2_with (first | (go_at_call 41; (with_reducible refine cpk.mono ?_); rintro e w4 ⟨y, hy, rfl, hd4, hg4⟩; have hy64 := bent3_in y hy; have hB4 := Arr.grownN hBn hg4 hb3N; have hc4 : w4.cell? ⟨w1.heap.size, 0, none⟩ = some (.slice av L.length cv) := hB4.cell 0; have hc4n : (w4.alloc (.cells #[.int .i64 y] 3)).cell? ⟨w1.heap.size, 0, none⟩ = some (.slice av L.length cv) := (hB4.alloc _).cell 0; have hown4 := row_kept hownn (fun j hj => hg4.block j (hownn.lt j hj).2 (fun e => by injection e with e; have := (hownn.lt j hj).1; omega)); have hs4 : w2.heap.size + 1 ≤ w4.heap.size := (by have := hg4.size; simp at this; omega)))
        refine hK.out _ _ (trivial) (fun hHeld2 => ?_)
        clear hK K
        (try simp only [Act.put, List.setIfInBounds_toArray, List.set_cons_zero, List.set_cons_succ, List.getElem_toArray, List.getElem_cons_succ, List.getElem_cons_zero])
        refine wpAnyH_ready (rs := [1, 5]) (by kernel_rfl) (by simp) ?_
        refine AllReadyH.cons rfl (fun K hK => ?_) (AllReadyH.cons rfl (fun K hK => ?_) AllReadyH.nil)
        · rw [if_pos (by rfl)]
          go_wp2_with fail
          refine hK.out _ _ (hHeld2) (fun hHeld3 => ?_)
          clear hK K
          (try simp only [Act.put, List.setIfInBounds_toArray, List.set_cons_zero, List.set_cons_succ, List.getElem_toArray, List.getElem_cons_succ, List.getElem_cons_zero])
          refine wpAnyH_ready (rs := [5]) (by kernel_rfl) (by simp) ?_
          refine AllReadyH.cons rfl (fun K hK => ?_) AllReadyH.nil
          rw [if_pos (by rfl)]
          go_wp2_with fail
          refine hK.out _ _ (hHeld3) (fun hHeld4 => ?_)
          clear hK K
          (try simp only [Act.put, List.setIfInBounds_toArray, List.set_cons_zero, List.set_cons_succ, List.getElem_toArray, List.getElem_cons_succ, List.getElem_cons_zero])
          refine wpAnyH_ready (rs := [6]) (by kernel_rfl) (by simp) ?_
          refine AllReadyH.cons rfl (fun K hK => ?_) AllReadyH.nil
          rw [if_pos (by rfl)]
          refine wp_append_own _ (.tmp 11) (.tmp 15) 24 (by rfl) (w.heap.size + 1) 3 i0 (Value.int .i64 0) 1 8 Tryz.underlying24 hi hz0 hz1 hz2 rfl (by decide) (.slice av L.length cv) L.length (L.map (Value.int .i64)) (by rfl) (hown4.alloc _) ⟨w4.heap.size, 0, none⟩ 1 1 [.int .i64 y] (by rfl) (by rfl) (World.news_of_block (cs := #[.int .i64 y]) (t := 3) (fr := (0, 0)) (heap_alloc_new w4 _)) (by simp [Value.oneCell']) (by unfold maxLen; omega) (by omega) (by simp; omega) ?_; intro v6 w6 hown6 hgr6 hnil6; obtain ⟨a6, c6, rfl, r6⟩ := row_open hown6
          have hlow := hown4.lt
          have hBB := Arr.grownRow (Arr.alloc hB4 (.cells #[.int .i64 y] 3)) hgr6 (fun j hj => by have := hlow j hj; intro e; subst e; exact hb3o hj)
          have hd6 : Dr W w6 N a len cap zs := (hd4.alloc _).grownR hgr6 (fun j hj => by have := (hlow j hj).1; omega)
          have hgw6 : w.grownBy w6 (some N) := grown_more (grown_alloc (grown_trans hgn hg4) _) hgr6 (fun j hj => .inl (by have := (hlow j hj).1; omega))
          have hR6 := Arr.grownRow (Arr.alloc (Arr.grownN hRn hg4 hNne) (.cells #[.int .i64 y] 3)) hgr6 (fun j hj => by have := (hlow j hj).1; omega)
          have hc6 : w6.cell? ⟨w1.heap.size, 0, none⟩ = some (.slice av L.length cv) := hBB.cell 0
          have hf6 := hBB.frozen 0
          refine hK.out _ _ (trivial) (fun hHeld5 => ?_)
          clear hK K
          (try simp only [Act.put, List.setIfInBounds_toArray, List.set_cons_zero, List.set_cons_succ, List.getElem_toArray, List.getElem_cons_succ, List.getElem_cons_zero])
          refine held_take 7 _ _ rfl (by kernel_rfl) (by kernel_rfl) (by kernel_rfl) (fun _ _ _ h => h) (by rfl) hHeld5 (fun w hSw => by (try dsimp only at hSw); go_simp; try with_reducible rfl) ?_
          (try simp only [Act.put, List.setIfInBounds_toArray, List.set_cons_zero, List.set_cons_succ, List.getElem_toArray, List.getElem_cons_succ, List.getElem_cons_zero])
          refine wpAnyH_ready (rs := [8]) (by kernel_rfl) (by simp) ?_
          refine AllReadyH.cons rfl (fun K hK => ?_) AllReadyH.nil
          rw [if_pos (by rfl)]
          go_wp2_with fail
          refine hK.out _ _ (hHeld5) (fun hHeld6 => ?_)
          clear hK K
          (try simp only [Act.put, List.setIfInBounds_toArray, List.set_cons_zero, List.set_cons_succ, List.getElem_toArray, List.getElem_cons_succ, List.getElem_cons_zero])
          refine wpAnyH_done (by kernel_rfl) ?_ _
          have hcB := World.cell?_setCell_same w6 ⟨w1.heap.size, 0, none⟩ (.slice a6 (L.length + 1) c6) hc6
          have hcr6 : (w6.setCell ⟨w1.heap.size, 0, none⟩ (.slice a6 (L.length + 1) c6)).cell? ⟨w.heap.size, 0, none⟩ = some (.slice none 0 0) := (World.cell?_setCell_other _ _ _ _ (by first | (simp; done) | (simp; omega))).trans (hR6.cell 0)
          have hfr6 := hR6.frozen 0
          have hne6 := own_ne_arr hown6 hBB (by decide)
          have hS7 := r6.slw.grownN (grownBy_setCell w6 w1.heap.size 0 (.slice a6 (L.length + 1) c6)) (fun p hp => by subst hp; exact fun e => hne6 (by rw [← e]; rfl))
          have hlo6 := hown6.lt
          have hfin := bent_fin (LL := L ++ [y]) (C := c6) (by rw [List.length_append, List.length_singleton]; omega) (fun x hx => by
            rcases List.mem_append.1 hx with h | h
            · exact HI.out x h
            · rw [List.mem_singleton.1 h]; exact hy64) (by simpa using hS7) (fun p hp => by subst hp; exact (hlo6 p.block rfl).1) (hd6.grownR (grownBy_setCell w6 w1.heap.size 0 (.slice a6 (L.length + 1) c6)) (fun k hk => by cases hk; omega)) (grown_more hgw6 (grownBy_setCell w6 w1.heap.size 0 (.slice a6 (L.length + 1) c6)) (fun k hk => by cases hk; exact .inl (by omega))) hWw hNne
          rw [List.length_append, List.length_singleton] at hfin
          have hcf := World.cell?_setCell_same (w6.setCell ⟨w1.heap.size, 0, none⟩ (.slice a6 (L.length + 1) c6)) ⟨w.heap.size, 0, none⟩ (.slice a6 (L.length + 1) c6) hcr6
          have HF := Lib.hid hfin
          clear hfin hS7 hlo6 hne6 hown6 hgr6 hd6 hgw6 hBB hR6 hlow hc6
          go_wp2_with fail
          exact bodyPost_ret (v := .agg #[.slice a6 (L.length + 1) c6]) (by simp [results, Tryz.results19, go_sem, hcf]) rfl HF.out
        · rw [if_pos (by rfl)]
          go_wp2_with fail
          refine hK.out _ _ (hHeld2) (fun hHeld3 => ?_)
          clear hK K
          (try simp only [Act.put, List.setIfInBounds_toArray, List.set_cons_zero, List.set_cons_succ, List.getElem_toArray, List.getElem_cons_succ, List.getElem_cons_zero])
          refine wpAnyH_ready (rs := [1]) (by kernel_rfl) (by simp) ?_
          refine AllReadyH.cons rfl (fun K hK => ?_) AllReadyH.nil
          rw [if_pos (by rfl)]
          go_wp2_with fail
          refine hK.out _ _ (hHeld3) (fun hHeld4 => ?_)
          clear hK K
          (try simp only [Act.put, List.setIfInBounds_toArray, List.set_cons_zero, List.set_cons_succ, List.getElem_toArray, List.getElem_cons_succ, List.getElem_cons_zero])
          refine wpAnyH_ready (rs := [6]) (by kernel_rfl) (by simp) ?_
          refine AllReadyH.cons rfl (fun K hK => ?_) AllReadyH.nil
          rw [if_pos (by rfl)]
          refine wp_append_own _ (.tmp 11) (.tmp 15) 24 (by rfl) (w.heap.size + 1) 3 i0 (Value.int .i64 0) 1 8 Tryz.underlying24 hi hz0 hz1 hz2 rfl (by decide) (.slice av L.length cv) L.length (L.map (Value.int .i64)) (by rfl) (hown4.alloc _) ⟨w4.heap.size, 0, none⟩ 1 1 [.int .i64 y] (by rfl) (by rfl) (World.news_of_block (cs := #[.int .i64 y]) (t := 3) (fr := (0, 0)) (heap_alloc_new w4 _)) (by simp [Value.oneCell']) (by unfold maxLen; omega) (by omega) (by simp; omega) ?_; intro v6 w6 hown6 hgr6 hnil6; obtain ⟨a6, c6, rfl, r6⟩ := row_open hown6
          have hlow := hown4.lt
          have hBB := Arr.grownRow (Arr.alloc hB4 (.cells #[.int .i64 y] 3)) hgr6 (fun j hj => by have := hlow j hj; intro e; subst e; exact hb3o hj)
          have hd6 : Dr W w6 N a len cap zs := (hd4.alloc _).grownR hgr6 (fun j hj => by have := (hlow j hj).1; omega)
          have hgw6 : w.grownBy w6 (some N) := grown_more (grown_alloc (grown_trans hgn hg4) _) hgr6 (fun j hj => .inl (by have := (hlow j hj).1; omega))
          have hR6 := Arr.grownRow (Arr.alloc (Arr.grownN hRn hg4 hNne) (.cells #[.int .i64 y] 3)) hgr6 (fun j hj => by have := (hlow j hj).1; omega)
          have hc6 : w6.cell? ⟨w1.heap.size, 0, none⟩ = some (.slice av L.length cv) := hBB.cell 0
          have hf6 := hBB.frozen 0
          refine hK.out _ _ (trivial) (fun hHeld5 => ?_)
          clear hK K
          (try simp only [Act.put, List.setIfInBounds_toArray, List.set_cons_zero, List.set_cons_succ, List.getElem_toArray, List.getElem_cons_succ, List.getElem_cons_zero])
          refine held_take 7 _ _ rfl (by kernel_rfl) (by kernel_rfl) (by kernel_rfl) (fun _ _ _ h => h) (by rfl) hHeld5 (fun w hSw => by (try dsimp only at hSw); go_simp; try with_reducible rfl) ?_
          (try simp only [Act.put, List.setIfInBounds_toArray, List.set_cons_zero, List.set_cons_succ, List.getElem_toArray, List.getElem_cons_succ, List.getElem_cons_zero])
          refine wpAnyH_ready (rs := [8]) (by kernel_rfl) (by simp) ?_
          refine AllReadyH.cons rfl (fun K hK => ?_) AllReadyH.nil
          rw [if_pos (by rfl)]
          go_wp2_with fail
          refine hK.out _ _ (hHeld5) (fun hHeld6 => ?_)
          clear hK K
          (try simp only [Act.put, List.setIfInBounds_toArray, List.set_cons_zero, List.set_cons_succ, List.getElem_toArray, List.getElem_cons_succ, List.getElem_cons_zero])
          refine wpAnyH_done (by kernel_rfl) ?_ _
          have hcB := World.cell?_setCell_same w6 ⟨w1.heap.size, 0, none⟩ (.slice a6 (L.length + 1) c6) hc6
          have hcr6 : (w6.setCell ⟨w1.heap.size, 0, none⟩ (.slice a6 (L.length + 1) c6)).cell? ⟨w.heap.size, 0, none⟩ = some (.slice none 0 0) := (World.cell?_setCell_other _ _ _ _ (by first | (simp; done) | (simp; omega))).trans (hR6.cell 0)
          have hfr6 := hR6.frozen 0
          have hne6 := own_ne_arr hown6 hBB (by decide)
          have hS7 := r6.slw.grownN (grownBy_setCell w6 w1.heap.size 0 (.slice a6 (L.length + 1) c6)) (fun p hp => by subst hp; exact fun e => hne6 (by rw [← e]; rfl))
          have hlo6 := hown6.lt
          have hfin := bent_fin (LL := L ++ [y]) (C := c6) (by rw [List.length_append, List.length_singleton]; omega) (fun x hx => by
            rcases List.mem_append.1 hx with h | h
            · exact HI.out x h
            · rw [List.mem_singleton.1 h]; exact hy64) (by simpa using hS7) (fun p hp => by subst hp; exact (hlo6 p.block rfl).1) (hd6.grownR (grownBy_setCell w6 w1.heap.size 0 (.slice a6 (L.length + 1) c6)) (fun k hk => by cases hk; omega)) (grown_more hgw6 (grownBy_setCell w6 w1.heap.size 0 (.slice a6 (L.length + 1) c6)) (fun k hk => by cases hk; exact .inl (by omega))) hWw hNne
          rw [List.length_append, List.length_singleton] at hfin
          have hcf := World.cell?_setCell_same (w6.setCell ⟨w1.heap.size, 0, none⟩ (.slice a6 (L.length + 1) c6)) ⟨w.heap.size, 0, none⟩ (.slice a6 (L.length + 1) c6) hcr6
          have HF := Lib.hid hfin
          clear hfin hS7 hlo6 hne6 hown6 hgr6 hd6 hgw6 hBB hR6 hlow hc6
          go_wp2_with fail
          exact bodyPost_ret (v := .agg #[.slice a6 (L.length + 1) c6]) (by simp [results, Tryz.results19, go_sem, hcf]) rfl HF.out
  · obtain ⟨g, hgav⟩ : ∃ g, av = some ⟨g, 0, none⟩ := by
      rcases hown2.2 with ⟨e, h0⟩ | ⟨g, cp, cur, e, -⟩
      · omega
      · cases e; exact ⟨g, rfl⟩
    subst hgav
    obtain ⟨x0, R, rfl⟩ : ∃ x0 R, L = x0 :: R := by
      cases L with
      | nil => simp at hL1
      | cons x0 R => exact ⟨x0, R, rfl⟩
    have hne2 := own_ne_arr hown2 hB2 (by decide)
    have hS2 := (SlW.of_owns hown2).1
    have hlo2 := (hown2.lt g rfl).1
    have hcl := hS2.le
    rw [List.length_map, List.length_cons] at hcl
    by_cases hc1 : cv = 1
    · subst hc1
      obtain rfl : R = [] := by cases R with
        | nil => rfl
        | cons y R => simp at hcl
      have hfin := bent_fin (LL := []) (A := some ⟨g, 0, none⟩) (C := 0) (by simp) (by simp) ⟨SlV.nil _ _, (fun e => by cases e), by simp, Nat.zero_le _⟩ (fun p hp => by cases hp; exact hlo2) (hd2.grownR (grownBy_setCell w2 w1.heap.size 0 (.slice (some ⟨g, 0, none⟩) 0 0)) (fun k hk => by cases hk; omega)) (grown_more hgw2 (grownBy_setCell w2 w1.heap.size 0 (.slice (some ⟨g, 0, none⟩) 0 0)) (fun k hk => by cases hk; exact .inl (by omega))) hWw hNne
      have hcB := World.cell?_setCell_same w2 ⟨w1.heap.size, 0, none⟩ (.slice (some ⟨g, 0, none⟩) 0 0) hc2
      have hcr6 : (w2.setCell ⟨w1.heap.size, 0, none⟩ (.slice (some ⟨g, 0, none⟩) 0 0)).cell? ⟨w.heap.size, 0, none⟩ = some (.slice none 0 0) := (World.cell?_setCell_other _ _ _ _ (by first | (simp; done) | (simp; omega))).trans hcr2
      have hcf := World.cell?_setCell_same _ ⟨w.heap.size, 0, none⟩ (.slice (some ⟨g, 0, none⟩) 0 0) hcr6
      have HF := Lib.hid hfin
      clear hfin hown2 hd2 hgw2 hB2 hR2 hS2 hcl
      go_wp2_with fail
      exact bodyPost_ret (v := .agg #[.slice (some ⟨g, 0, none⟩) 0 0]) (by simp [results, Tryz.results19, go_sem, hcf]) rfl HF.out
    · have hS3 := (hS2.tail hc1).grownN (grownBy_setCell w2 w1.heap.size 0 (.slice (some ⟨g, 1, none⟩) R.length (cv - 1))) (fun p hp => by cases hp; exact fun e => hne2 (by show some g = _; rw [← e]))
      have hfin := bent_fin (LL := R) (A := some ⟨g, 1, none⟩) (C := cv - 1) (by simp at hL12; omega) (fun x hx => HI.out x (by simp [hx])) hS3 (fun p hp => by cases hp; exact hlo2) (hd2.grownR (grownBy_setCell w2 w1.heap.size 0 (.slice (some ⟨g, 1, none⟩) R.length (cv - 1))) (fun k hk => by cases hk; omega)) (grown_more hgw2 (grownBy_setCell w2 w1.heap.size 0 (.slice (some ⟨g, 1, none⟩) R.length (cv - 1))) (fun k hk => by cases hk; exact .inl (by omega))) hWw hNne
      have hcB := World.cell?_setCell_same w2 ⟨w1.heap.size, 0, none⟩ (.slice (some ⟨g, 1, none⟩) R.length (cv - 1)) hc2
      have hcr6 : (w2.setCell ⟨w1.heap.size, 0, none⟩ (.slice (some ⟨g, 1, none⟩) R.length (cv - 1))).cell? ⟨w.heap.size, 0, none⟩ = some (.slice none 0 0) := (World.cell?_setCell_other _ _ _ _ (by first | (simp; done) | (simp; omega))).trans hcr2
      have hcf := World.cell?_setCell_same _ ⟨w.heap.size, 0, none⟩ (.slice (some ⟨g, 1, none⟩) R.length (cv - 1)) hcr6
      have HF := Lib.hid hfin
      have hcc : cv ≠ 1 := hc1
      clear hfin hown2 hd2 hgw2 hB2 hR2 hS2 hS3
      go_wp2_with fail
      exact bodyPost_ret (v := .agg #[.slice (some ⟨g, 1, none⟩) R.length (cv - 1)]) (by simp [results, Tryz.results19, go_sem, hcf]) rfl HF.out
  · have hNp : w2.heap.size ≠ N := by omega
    have cpk := l1PickInt_dr (hd2.alloc (.cells #[.int .i64 0, .int .i64 59, .int .i64 4] 3)) bent4 w2.heap.size 3 (by decide) (by decide) (by simp) hNp (fun i u h => ((Arr.new w2 3 (bent4.map (Value.int .i64))).cell i).trans h)
    rw [show bent4.length = 3 from rfl] at cpk
    have hB3 := hB2.alloc (.cells #[.int .i64 0, .int .i64 59, .int .i64 4] 3)
    have hR3 := hR2.alloc (.cells #[.int .i64 0, .int .i64 59, .int .i64 4] 3)
    have hgw3 := grown_alloc hgw2 (.cells #[.int .i64 0, .int .i64 59, .int .i64 4] 3)
    clear hd2 hB2 hR2 hown2 hc2 hf2 hcr2 hfr2 hgw2
    go_wp2_with fail
    refine cpk.mono ?_
    rintro e w4 ⟨y, hy, rfl, hd4, hg4⟩
    have hy64 := bent4_in y hy
    have hBB := (Arr.grownN hB3 hg4 hb3N).alloc (.cells #[.int .i64 y, .int .i64 60] 3)
    have hRR := (Arr.grownN hR3 hg4 hNne).alloc (.cells #[.int .i64 y, .int .i64 60] 3)
    have hs4 : w2.heap.size + 1 ≤ w4.heap.size := by have := hg4.size; simp at this; omega
    have hown5 : (w4.alloc (.cells #[.int .i64 y, .int .i64 60] 3)).ownsRow (w.heap.size + 1) 3 1 (.slice (some ⟨w4.heap.size, 0, none⟩) 2 2) 2 ([y, 60].map (Value.int .i64)) := World.ownsRow_lit w4 #[.int .i64 y, .int .i64 60] 2 (by omega) (by unfold maxLen; omega) rfl
    have hS5 := SlW.of_owns hown5
    have hS7 := hS5.1.grownN (grownBy_setCell _ w1.heap.size 0 (.slice (some ⟨w4.heap.size, 0, none⟩) 2 2)) (fun p hp => by cases hp; show w4.heap.size ≠ _; omega)
    have hd5 := hd4.alloc (.cells #[.int .i64 y, .int .i64 60] 3)
    have hg5 := grown_alloc (grown_trans hgw3 hg4) (.cells #[.int .i64 y, .int .i64 60] 3)
    have hfin := bent_fin (LL := [y, 60]) (A := some ⟨w4.heap.size, 0, none⟩) (C := 2) (by simp) (fun x hx => by
      rcases List.mem_cons.1 hx with h | h
      · rw [h]; exact hy64
      · rw [List.mem_singleton.1 h]; unfold InI64; omega) hS7 hS5.2 (hd5.grownR (grownBy_setCell _ w1.heap.size 0 (.slice (some ⟨w4.heap.size, 0, none⟩) 2 2)) (fun k hk => by cases hk; omega)) (grown_more hg5 (grownBy_setCell _ w1.heap.size 0 (.slice (some ⟨w4.heap.size, 0, none⟩) 2 2)) (fun k hk => by cases hk; exact .inl (by omega))) hWw hNne
    have hc5 : (w4.alloc (.cells #[.int .i64 y, .int .i64 60] 3)).cell? ⟨w1.heap.size, 0, none⟩ = some (.slice av L.length cv) := hBB.cell 0
    have hf5 := hBB.frozen 0
    have hcB := World.cell?_setCell_same _ ⟨w1.heap.size, 0, none⟩ (.slice (some ⟨w4.heap.size, 0, none⟩) 2 2) hc5
    have hcr6 : ((w4.alloc (.cells #[.int .i64 y, .int .i64 60] 3)).setCell ⟨w1.heap.size, 0, none⟩ (.slice (some ⟨w4.heap.size, 0, none⟩) 2 2)).cell? ⟨w.heap.size, 0, none⟩ = some (.slice none 0 0) := (World.cell?_setCell_other _ _ _ _ (by first | (simp; done) | (simp; omega))).trans (hRR.cell 0)
    have hfr6 := hRR.frozen 0
    have hcf := World.cell?_setCell_same _ ⟨w.heap.size, 0, none⟩ (.slice (some ⟨w4.heap.size, 0, none⟩) 2 2) hcr6
    have HF := Lib.hid hfin
    clear hfin hown5 hd5 hd4 hg4 hg5 hgw3 hS5 hS7 hBB hRR hB3 hR3 cpk
    go_wp2_with fail
    exact bodyPost_ret (v := .agg #[.slice (some ⟨w4.heap.size, 0, none⟩) 2 2]) (by simp [results, Tryz.results19, go_sem, hcf]) rfl HF.out
  · have hS2 := SlW.of_owns hown2
    have hfin := bent_fin (LL := L) (by omega) HI.out hS2.1 hS2.2 hd2 hgw2 hWw hNne
    have hcf := World.cell?_setCell_same w2 ⟨w.heap.size, 0, none⟩ (.slice av L.length cv) hcr2
    have HF := Lib.hid hfin
    clear hfin hown2 hd2 hgw2 hB2 hR2 hS2
    go_wp2_with fail
    exact bodyPost_ret (v := .agg #[.slice av L.length cv]) (by simp [results, Tryz.results19, go_sem, hcf]) rfl HF.out
end Go.Proofs.YtdjjagpecbflnaaGreatDoor
