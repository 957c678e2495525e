/-
  CONTRACTS of the reference's chapter 12: l12Sum, LengthsOf. (Own work.)
-/
import Derived.Test.YthalbmlgkkgheaaL45
import Derived.Test.YthalbmlgkkgheaaSgV
import Derived.Test.YthalbmlgkkgheaaRow6
import Derived.Maps.AppendAt
namespace Go.Proofs.Ythalbmlgkkgheaa
open Go Go.RowKit

set_option maxRecDepth 100000 in
set_option maxHeartbeats 800000 in
theorem spec_l12Sum (L : List Int) (a : Option Addr) (cap : Nat) (w : World) (hr : SlV w a (L.map (Value.int .i64))) (hb : L.length ≤ 12) (hL : ∀ x ∈ L, 0 ≤ x ∧ x ≤ 100) :
    Calls Try.prog 42 #[.slice a L.length cap] w fun e w' => e = .returned (.int .i64 L.sum) ∧ w' = w := by
  have HL := Lib.hid hL
  clear hL
  go_enter Try.func42, Try.ntmps42
  go_wp2_with fail
  go_loop [3, 4] (fun s i => ∃ k : Nat, k ≤ L.length ∧ i = .int .i64 (k : Int) ∧ s = .int .i64 (L.take k).sum) (fun _ i => L.length - (intOf i).toNat)
  case atStart => exact ⟨0, Nat.zero_le _, rfl, rfl⟩
  case round =>
    obtain ⟨k, hk, rfl, rfl⟩ := hrel
    by_cases hlt : k < L.length
    · obtain ⟨b, off, rfl, hbs, hc⟩ := hr.open (by intro h; rw [List.map_eq_nil_iff] at h; subst h; simp at hlt)
      have hcell : w.cell? ⟨b, off + k, none⟩ = some (.int .i64 L[k]) := hc k _ (by simp [hlt])
      have HT := Lib.hid (sum_take1 hlt)
      have hs := sum_bnd (L := L.take k) fun x hx => HL.out x (List.mem_of_mem_take hx)
      have hl1 : (L.take k).length ≤ 12 := by rw [List.length_take]; omega
      have hx := HL.out L[k] (List.getElem_mem hlt)
      clear hc hr
      generalize L[k] = x at *
      generalize (L.take k).sum = s at *
      have hw1 : IntKind.i64.wrap (s + x) = s + x := IntWalk.i64_in _ (by omega)
      go_wp2_with fail
      go_round
      case rel => exact ⟨k + 1, by omega, by go_num, by rw [HT.out]⟩
      case measure => simp [intOf]; omega
    · obtain rfl : k = L.length := by omega
      have HT := Lib.hid (List.take_of_length_le (Nat.le_refl L.length))
      clear hr
      go_wp2_with fail
      go_ret
      exact ⟨by rw [← HT.out]; simp, rfl⟩
set_option maxRecDepth 100000 in
set_option maxHeartbeats 1600000 in
theorem spec_LengthsOf (G : List Int) (n : Int) (a : Option Addr) (cap : Nat) (w : World) (hr : SlV w a (G.map (Value.int .i64))) (hb : G.length ≤ 1048576) :
    Calls Try.prog 19 #[.agg #[.slice a G.length cap], .int .i64 n] w (SlPost (lenL G n) w) := by
  obtain ⟨i0, hi, hz0, hz1, hz2⟩ := info_parts infoIntL
  obtain ⟨W, hW⟩ : ∃ W, W = (w.alloc (.cells #[.slice a G.length cap] 26)).alloc (.cells #[] 3) := ⟨_, rfl⟩
  have hbW : Below w.heap.size w W := by rw [hW]; exact (box_below _ _).alloc (by simp) _
  have hsz : (w.alloc (.cells #[.slice a G.length cap] 26)).heap.size = w.heap.size + 1 := by simp
  have hc0 : W.cell? ⟨w.heap.size, 0, none⟩ = some (.slice a G.length cap) := by rw [hW]; exact (World.cell?_alloc_lt _ _ ⟨w.heap.size, 0, none⟩ (by simp)).trans (box_cell w _)
  have hown : W.ownsRow w.heap.size 3 1 (.slice (some ⟨(w.alloc (.cells #[.slice a G.length cap] 26)).heap.size, 0, none⟩) 0 0) 0 [] := by rw [hW]; exact World.ownsRow_lit _ #[] 0 (by simp) (by simp) rfl
  have c1 := spec_Factorizations G n a cap W (hr.below hbW) hb
  have HW := Lib.hid hW
  have HLE := Lib.hid (factL_len G n)
  have HWD := Lib.hid (factL_width G n)
  have HEN := Lib.hid (fun (L : List Int) (h : L ∈ factL G n) => fact_ent h)
  have HF : Hid (lenL G n = sortL ((factL G n).map List.sum)) := Lib.hid rfl
  have hS := hown
  rw [hsz] at hS
  clear hW hsz hown
  go_enter Try.func19, Try.ntmps19
  go_wp2_with fail
  rw [← HW.out]
  refine c1.mono ?_
  intro e w1 hp
  obtain ⟨a1, k1, vs, rfl, -, hR, hb1⟩ := hp.opened
  have hb01 := hbW.trans (hb1.mono hbW.size)
  have hB0 : Beside w W.heap.size w1.heap.size (factL G n) a1 k1 vs w1 (.slice (some ⟨w.heap.size + 1, 0, none⟩) 0 0) [] :=
    ⟨owns_below hS hb1, fun b hb => by have := hS.lt b hb; exact .inl this.2, hR, hb01⟩
  have HB0 := Lib.hid hB0
  clear hB0 hS hR hb1 hb01 hp c1 hc0 hr HW hbW
  generalize factL G n = F at *
  have hle := HLE.out
  go_wp2_with fail
  go_loopw [5, 7] (fun v i wr => ∃ (k : Nat) (M : List Int), k ≤ F.length ∧ i = .int .i64 (k : Int) ∧ Once M ((F.take k).map List.sum) ∧ M.length ≤ k ∧ Beside w W.heap.size w1.heap.size F a1 k1 vs wr v M) (fun _ i _ => F.length - (intOf i).toNat)
  case atStart => exact ⟨0, [], Nat.zero_le _, rfl, Once.nil, Nat.le_refl _, HB0.out⟩
  case round =>
    clear HB0
    obtain ⟨k, M, hk, rfl, hO, hMl, hB⟩ := hrel
    have hsz := hB.bel.size
    by_cases hlt : k < F.length
    · obtain ⟨b, o, u, d, rfl, hcell, hsl⟩ := hB.at hlt
      have cs := spec_l12Sum F[k] u d wr hsl (HWD.out _ (List.getElem_mem hlt)) (HEN.out _ (List.getElem_mem hlt))
      have HT : Hid ((F.take (k + 1)).map List.sum = (F.take k).map List.sum ++ [F[k].sum]) := Lib.hid (by rw [List.take_add_one, List.getElem?_eq_getElem hlt, List.map_append]; rfl)
      obtain ⟨av, cv, rfl, -, -, hsv, -⟩ := SlV.of_owns hB.own
      have hh := spec_HasNumber M F[k].sum av cv wr hsv (by unfold maxLen; omega)
      generalize F[k].sum = x at *
      generalize F[k].length = m at *
      have HB := Lib.hid hB
      have hlt0 := fun j hj => (hB.own.lt j hj).1
      have hown := hB.own
      clear hB hsl hsv
      cases hin : hasB M x
      · have HO2 := Lib.hid (hO.new hin)
        rw [hin] at hh
        clear hin hO
        go_wp2_with fail
        refine cs.mono ?_
        rintro e w' ⟨rfl, rfl⟩
        go_wp2_with fail
        refine hh.mono ?_
        rintro e w' ⟨rfl, hww⟩
        subst hww
        clear cs hh
        go_wp2_with (at_builtin; refine wpList_append_own_at _ rfl _ _ 24 rfl w.heap.size 3 i0 (Value.int .i64 0) 1 8 Try.underlying24 hi hz0 hz1 hz2 rfl (by decide) _ _ _ rfl (hown.alloc _) ⟨_, 0, none⟩ 1 1 [.int .i64 x] rfl rfl (World.news_of_block (cs := #[.int .i64 x]) (t := 3) (fr := (0, 0)) (heap_alloc_new _ _)) (by simp [Value.oneCell']) (by unfold maxLen; omega) (by omega) (by simp; omega) ?_; intro v2 w2 hown2 hgrow2 _ hat2)
        have HB2 := Lib.hid (HB.out.grow _ x hown2 hgrow2 hat2)
        clear hown hown2 hgrow2 hat2 HB hlt0 hcell
        go_wp2_with fail
        go_roundw
        case rel => exact ⟨k + 1, M ++ [x], by omega, by go_num, by rw [HT.out]; exact HO2.out, by simp; omega, HB2.out⟩
        case measure => simp [intOf]; omega
      · have HO2 := Lib.hid (hO.old hin)
        rw [hin] at hh
        clear hin hO hown hlt0
        go_wp2_with fail
        refine cs.mono ?_
        rintro e w' ⟨rfl, rfl⟩
        go_wp2_with fail
        refine hh.mono ?_
        rintro e w' ⟨rfl, hww⟩
        subst hww
        clear cs hh hcell
        go_wp2_with fail
        go_roundw
        case rel => exact ⟨k + 1, M, by omega, by go_num, by rw [HT.out]; exact HO2.out, by omega, HB.out⟩
        case measure => simp [intOf]; omega
    · obtain rfl : k = F.length := by omega
      rw [List.take_of_length_le (Nat.le_refl _)] at hO
      have HE : Hid (lenL G n = sortL M) := Lib.hid (by rw [HF.out, hO.sort])
      have hml : M.length ≤ 1201 := hO.len fun y hy => by
        obtain ⟨L, hL, rfl⟩ := List.mem_map.1 hy
        have h1 := sum_bnd (HEN.out L hL)
        have h2 := HWD.out L hL
        omega
      have hs := sort_of_owns hB.own hB.bel (by omega)
      clear hB hO
      go_wp2_with fail
      refine hs.mono ?_
      rintro e w' ⟨u, rfl, hp⟩
      go_wp2_with fail
      go_ret
      obtain ⟨g, c, e1, ho, hb⟩ := hp
      injection e1 with e1
      subst e1
      exact ⟨_, rfl, by rw [HE.out]; exact ho, hb⟩
end Go.Proofs.Ythalbmlgkkgheaa
