/-
  CONTRACTS of the reference's chapter 12: DeltaSet. (Own work.)
-/
import Derived.Test.YthalbmlgkkgheaaL47
import Derived.Test.YthalbmlgkkgheaaSgR
namespace Go.Proofs.Ythalbmlgkkgheaa
open Go Go.RowKit

set_option maxRecDepth 100000 in
set_option maxHeartbeats 1600000 in
theorem spec_DeltaSet (G : List Int) (x : Int) (a : Option Addr) (cap : Nat) (w : World) (hr : SlV w a (G.map (Value.int .i64))) (hb : G.length ≤ 1048576) :
    Calls Try.prog 22 #[.agg #[.slice a G.length cap], .int .i64 x] w (SlPost (deltasL G x) w) := by
  obtain ⟨i0, hi, hz0, hz1, hz2⟩ := info_parts infoIntL
  obtain ⟨V, hV⟩ : ∃ V, V = w.alloc (.cells #[.slice a G.length cap] 26) := ⟨_, rfl⟩
  obtain ⟨W, hW⟩ : ∃ W, W = V.alloc (.cells #[] 3) := ⟨_, rfl⟩
  have hbV : Below w.heap.size w V := by rw [hV]; exact box_below _ _
  have hbVW : Below V.heap.size V W := by rw [hW]; exact (Below.refl _ _).alloc (Nat.le_refl _) _
  have hbW := hbV.trans (hbVW.mono hbV.size)
  have hcV : V.cell? ⟨w.heap.size, 0, none⟩ = some (.slice a G.length cap) := by rw [hV]; exact box_cell w _
  have hVs : w.heap.size < V.heap.size := by rw [hV]; simp
  have hVs1 : V.heap.size ≤ w.heap.size + 1 := by rw [hV]; simp
  have hVe : V.heap.size = w.heap.size + 1 := by omega
  have hc0 : W.cell? ⟨w.heap.size, 0, none⟩ = some (.slice a G.length cap) := (hbVW.cell (p := ⟨w.heap.size, 0, none⟩) hVs).trans hcV
  have hS : W.ownsRow V.heap.size 3 1 (.slice (some ⟨V.heap.size, 0, none⟩) 0 0) 0 [] := by rw [hW]; exact World.ownsRow_lit _ #[] 0 (Nat.le_refl _) (by simp) rfl
  have HV : Hid (W = (w.alloc (.cells #[.slice a G.length cap] 26)).alloc (.cells #[] 3)) := Lib.hid (by rw [hW, hV])
  have HVE := Lib.hid hVe
  have c1 := spec_IsSemigroup G a cap W (hr.below hbW) hb
  have ci := fun w => l1In_any x 0 100 w
  have HS := Lib.hid hS
  clear hV hW hVe hS
  cases hs : isSgB G
  · have HR := Lib.hid (deltasL_no x hs)
    rw [hs] at c1
    clear hs hr ci hi hz0 hz1 hz2 hcV
    go_enter Try.func22, Try.ntmps22
    go_wp2_with fail
    rw [← HV.out]
    refine c1.mono ?_
    rintro e w1 ⟨rfl, hb1⟩
    have hb01 := hbW.trans (hb1.mono hbW.size)
    go_wp2_with fail
    go_ret
    exact ⟨_, rfl, by rw [HR.out, ← HVE.out]; exact ownsBase (owns_below HS.out hb1) hbV.size, hb01⟩
  · rw [hs] at c1
    clear hs
    cases hx : inB x 0 100
    · have HR := Lib.hid (deltasL_out (G := G) hx)
      rw [hx] at ci
      clear hx hr hi hz0 hz1 hz2 hcV
      go_enter Try.func22, Try.ntmps22
      go_wp2_with fail
      rw [← HV.out]
      refine c1.mono ?_
      rintro e w1 ⟨rfl, hb1⟩
      have hb01 := hbW.trans (hb1.mono hbW.size)
      go_wp2_with fail
      refine (ci _).mono ?_
      rintro e w2 ⟨rfl, rfl⟩
      go_wp2_with fail
      go_ret
      exact ⟨_, rfl, by rw [HR.out, ← HVE.out]; exact ownsBase (owns_below HS.out hb1) hbV.size, hb01⟩
    · obtain ⟨hx0, hx1⟩ := inB_true hx
      obtain ⟨m, rfl⟩ := Int.eq_ofNat_of_zero_le hx0
      have HR := Lib.hid (deltasL_yes (G := G) hx)
      rw [hx] at ci
      clear hx
      go_enter Try.func22, Try.ntmps22
      go_wp2_with fail
      rw [← HV.out]
      refine c1.mono ?_
      rintro e w1 ⟨rfl, hb1⟩
      have hbV1 := hbVW.trans (hb1.mono hbVW.size)
      have HO1 : Hid (w1.ownsRow V.heap.size 3 1 (.slice (some ⟨w.heap.size + 1, 0, none⟩) 0 0) ([] : List Int).length (([] : List Int).map (Value.int .i64))) := Lib.hid (by rw [← HVE.out]; exact owns_below HS.out hb1)
      clear c1 hb1 hc0 hbVW hbW HV HS
      go_wp2_with fail
      refine (ci _).mono ?_
      rintro e w2 ⟨rfl, hww⟩
      subst hww
      clear ci
      go_wp2_with fail
      go_loopw [5, 6] (fun v i wr => ∃ (k : Nat) (M : List Int), k ≤ m + 1 ∧ i = .int .i64 (k : Int) ∧ Once M (upD G k) ∧ wr.ownsRow V.heap.size 3 1 v M.length (M.map (Value.int .i64)) ∧ Below V.heap.size V wr) (fun _ i _ => m + 1 - (intOf i).toNat)
      case atStart => exact ⟨0, [], Nat.zero_le _, rfl, Once.nil, HO1.out, hbV1⟩
      case round =>
        clear HO1 hbV1
        obtain ⟨k, M, hk, rfl, hO, hown, hbel⟩ := hrel
        have hsz := hbel.size
        by_cases hlt : k < m + 1
        · have hk0 : wr.cell? ⟨w.heap.size, 0, none⟩ = some (.slice a G.length cap) := (hbel.cell (p := ⟨w.heap.size, 0, none⟩) hVs).trans hcV
          have c1 := spec_DeltaOf G (k : Int) a cap wr (hr.below (hbV.trans (hbel.mono hbV.size))) hb
          have HU := Lib.hid (upD_succ G k)
          have hlti : (k : Int) ≤ (m : Int) := by omega
          have hdl := deltaL_len G (k : Int)
          have HDB := Lib.hid (fun (x : Int) (h : x ∈ deltaL G (k : Int)) => deltaL_bnd h)
          have HQB := Lib.hid (fun (x : Int) (h : x ∈ upD G k) => upD_bnd h)
          generalize upD G k = Q at *
          have HB0 := Lib.hid hbel
          have HW0 := Lib.hid hown
          clear hown hbel
          go_wp2_with fail
          refine c1.mono ?_
          rintro e w1 ⟨u, rfl, ho, hb1⟩
          obtain ⟨a1, k1, rfl, rX⟩ := row_open ho
          generalize deltaL G (k : Int) = D at *
          have hB0 : Beside1 V wr.heap.size w1.heap.size D a1 k1 w1 _ M := ⟨owns_below HW0.out hb1, fun b hb => .inl (HW0.out.lt b hb).2, rX, HB0.out.trans (hb1.mono hsz)⟩
          have HBB := Lib.hid hB0
          clear c1 ho rX hk0 hB0 hb1 HW0 HB0
          have HOO := Lib.hid hO
          clear hO
          go_wp2_with fail
          go_loopw [5, 8] (fun v i w3 => ∃ (j : Nat) (M : List Int), j ≤ D.length ∧ i = .int .i64 (j : Int) ∧ Once M (Q ++ D.take j) ∧ Beside1 V wr.heap.size w1.heap.size D a1 k1 w3 v M) (fun _ i _ => D.length - (intOf i).toNat)
          case atStart => exact ⟨0, M, Nat.zero_le _, rfl, by simpa using HOO.out, HBB.out⟩
          case round =>
            clear HOO HBB
            rename World => w3
            obtain ⟨j, M, hj, rfl, hO, hB⟩ := hrel
            have hsz3 := hB.bel.size
            by_cases hjl : j < D.length
            · obtain ⟨b, o, rfl, hbs, hne, hc⟩ := hB.at (by intro h; rw [h] at hjl; simp at hjl)
              have hcell : w3.cell? ⟨b, o + j, none⟩ = some (.int .i64 D[j]) := hc j hjl
              have HT : Hid (Q ++ D.take (j + 1) = (Q ++ D.take j) ++ [D[j]]) := Lib.hid (by rw [List.take_add_one, List.getElem?_eq_getElem hjl, ← List.append_assoc]; rfl)
              have hMl : M.length ≤ 1201 := hO.len fun y hy => by
                rcases List.mem_append.1 hy with h | h
                · have := HQB.out y h; omega
                · have := HDB.out y (List.mem_of_mem_take h); omega
              obtain ⟨av, cv, rfl, -, -, hsv, -⟩ := SlV.of_owns hB.own
              have hh := spec_HasNumber M D[j] av cv w3 hsv (by unfold maxLen; omega)
              have HB := Lib.hid hB
              have hown := hB.own
              clear hB hsv hc hne
              generalize D[j] = x at *
              cases hin : hasB M x
              · have HO2 := Lib.hid (hO.new hin)
                rw [hin] at hh
                clear hin hO
                go_wp2_with fail
                refine hh.mono ?_
                rintro e w' ⟨rfl, hww⟩
                subst hww
                clear hh
                go_wp2_with (at_builtin; refine wpList_append_own_at _ rfl _ _ 24 rfl V.heap.size 3 i0 (Value.int .i64 0) 1 8 Try.underlying24 hi hz0 hz1 hz2 rfl (by decide) _ _ _ rfl (hown.alloc _) ⟨_, 0, none⟩ 1 1 [.int .i64 x] rfl rfl (World.news_of_block (cs := #[.int .i64 x]) (t := 3) (fr := (0, 0)) (heap_alloc_new _ _)) (by simp [Value.oneCell']) (by unfold maxLen; omega) (by omega) (by simp; omega) ?_; intro v2 w2 hown2 hgrow2 _ hat2)
                have HB2 := Lib.hid (HB.out.grow _ x hown2 hgrow2 hat2)
                clear hown hown2 hgrow2 hat2 HB hcell
                go_wp2_with fail
                go_roundw
                case rel => exact ⟨j + 1, M ++ [x], by omega, by go_num, by rw [HT.out]; exact HO2.out, HB2.out⟩
                case measure => simp [intOf]; omega
              · have HO2 := Lib.hid (hO.old hin)
                rw [hin] at hh
                clear hin hO hown
                go_wp2_with fail
                refine hh.mono ?_
                rintro e w' ⟨rfl, hww⟩
                subst hww
                clear hh hcell
                go_wp2_with fail
                go_roundw
                case rel => exact ⟨j + 1, M, by omega, by go_num, by rw [HT.out]; exact HO2.out, HB.out⟩
                case measure => simp [intOf]; omega
            · obtain rfl : j = D.length := by omega
              rw [List.take_of_length_le (Nat.le_refl _), ← HU.out] at hO
              have HO2 := Lib.hid hO
              have HB := Lib.hid hB
              clear hO hB
              go_wp2_with fail
              go_roundw
              case rel => exact ⟨k + 1, M, by omega, by go_num, HO2.out, HB.out.own, HB.out.bel⟩
              case measure => simp [intOf]; omega
        · obtain rfl : k = m + 1 := by omega
          have hlti : ¬ ((m + 1 : Nat) : Int) ≤ (m : Int) := by omega
          have HE : Hid (deltasL G (m : Int) = sortL M) := Lib.hid (by rw [HR.out, hO.sort])
          have hml : M.length ≤ 1201 := hO.len fun y hy => by have := upD_bnd hy; omega
          have hs := sort_of_owns hown hbel (by omega)
          clear hown hO
          go_wp2_with fail
          refine hs.mono ?_
          rintro e w' ⟨u, rfl, hp⟩
          go_wp2_with fail
          go_ret
          obtain ⟨g, c, e1, ho, hb'⟩ := hp
          injection e1 with e1
          subst e1
          exact ⟨_, rfl, by rw [HE.out]; exact ownsBase ho hbV.size, hbV.trans (hb'.mono hbV.size)⟩
end Go.Proofs.Ythalbmlgkkgheaa
