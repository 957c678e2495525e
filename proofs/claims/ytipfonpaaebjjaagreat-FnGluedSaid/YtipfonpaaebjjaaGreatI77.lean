/-
  CONTRACTS of the program's chapter 22: multiply, what it defers, copyOf, isFactorFor. (Own work.)
-/
import Derived.Test.YtipfonpaaebjjaaGreatSgTe
import Derived.Test.YtipfonpaaebjjaaGreatCh4I
import Derived.Test.YtipfonpaaebjjaaGreatL24
import Derived.Test.YtipfonpaaebjjaaGreatSh
import Derived.Defers
import Derived.BigRegion
import Derived.OwnWalk
import Derived.WalkMore
import Derived.Deep.Cut
namespace Go.Proofs.YtipfonpaaebjjaaGreat
open Go Go.RowKit
attribute [local go_sem] Oper.semAt_some

def mixL (L : List Int) (d : Int) (k : Nat) : List Int := (L.take k).map (fun x => x * d) ++ L.drop k
theorem mixL_zero (L : List Int) (d : Int) : mixL L d 0 = L := by simp [mixL]
theorem mixL_all (L : List Int) (d : Int) : mixL L d L.length = timesL L d := by simp [mixL, timesL]
theorem mixL_len (L : List Int) (d : Int) {k : Nat} (hk : k ≤ L.length) : (mixL L d k).length = L.length := by simp [mixL]; omega
theorem mixL_at (L : List Int) (d : Int) {k : Nat} (hk : k < L.length) : (mixL L d k)[k]? = some L[k] := by
  unfold mixL
  rw [List.getElem?_append_right (by simp; omega)]
  simp [Nat.min_eq_left (Nat.le_of_lt hk), hk]
theorem mixL_set (L : List Int) (d : Int) {k : Nat} (hk : k < L.length) : (mixL L d k).set k (L[k] * d) = mixL L d (k + 1) := by
  unfold mixL
  rw [List.set_append_right _ _ (by simp; omega), List.take_add_one, List.getElem?_eq_getElem hk, List.map_append, List.drop_eq_getElem_cons hk, show k - ((L.take k).map (fun x => x * d)).length = 0 by simp; omega]
  rw [List.set_cons_zero, List.append_assoc]; rfl
def unL (L : List Int) (d : Int) (k : Nat) : List Int := L.take k ++ (L.drop k).map (fun x => x * d)
theorem unL_zero (L : List Int) (d : Int) : unL L d 0 = timesL L d := by simp [unL, timesL]
theorem unL_all (L : List Int) (d : Int) : unL L d L.length = L := by simp [unL]
theorem unL_at (L : List Int) (d : Int) {k : Nat} (hk : k < L.length) : (unL L d k)[k]? = some (L[k] * d) := by
  unfold unL
  rw [List.getElem?_append_right (by simp; omega)]
  simp [Nat.min_eq_left (Nat.le_of_lt hk), hk]
theorem unL_set (L : List Int) (d : Int) {k : Nat} (hk : k < L.length) : (unL L d k).set k L[k] = unL L d (k + 1) := by
  unfold unL
  rw [List.set_append_right _ _ (by simp; omega), List.take_add_one, List.getElem?_eq_getElem hk, List.drop_eq_getElem_cons hk, show k - (L.take k).length = 0 by simp; omega]
  rw [List.map_cons, List.set_cons_zero, List.append_assoc]; rfl

set_option maxRecDepth 100000 in
set_option maxHeartbeats 3200000 in
theorem impl_multiply (L : List Int) (d : Int) (lo g cap : Nat) (w : World) (ho : w.ownsRow lo 3 1 (.slice (some ⟨g, 0, none⟩) L.length cap) L.length (L.map (Value.int .i64))) (hL : ∀ x ∈ L, 1 ≤ x ∧ x ≤ 60) (hd : 1 ≤ d ∧ d ≤ 60) (hl : L.length ≤ 20) :
    Calls Tryz.prog 85 #[.slice (some ⟨g, 0, none⟩) L.length cap, .int .i64 d] w fun e w' =>
      e = .returned (.func (Fn.func 115) #[] #[.pointer (some ⟨w.heap.size, 0, none⟩), .pointer (some ⟨w.heap.size + 1, 0, none⟩)]) ∧ w'.ownsRow lo 3 1 (.slice (some ⟨g, 0, none⟩) L.length cap) L.length ((timesL L d).map (Value.int .i64)) ∧
      w'.cell? ⟨w.heap.size, 0, none⟩ = some (.slice (some ⟨g, 0, none⟩) L.length cap) ∧ w'.cell? ⟨w.heap.size + 1, 0, none⟩ = some (.int .i64 d) ∧ w.grownBy w' (some g) ∧ w.heap.size + 2 ≤ w'.heap.size := by
  have HL := Lib.hid hL
  have hgl := (ho.lt g rfl).2
  have hmf : ∀ (fn : Fn) (first cap : Array Value) (w : World), (Instr.makeFunc fn first cap).run Tryz.prog w = .ok (.func fn first cap) w := fun _ _ _ _ => rfl
  obtain ⟨V, hV⟩ : ∃ V, V = (w.alloc (.cells #[.slice (some ⟨g, 0, none⟩) L.length cap] 24)).alloc (.cells #[.int .i64 d] 3) := ⟨_, rfl⟩
  have hVs : V.heap.size = w.heap.size + 2 := by rw [hV]; simp
  have hVp : V.cell? ⟨w.heap.size, 0, none⟩ = some (.slice (some ⟨g, 0, none⟩) L.length cap) := by rw [hV]; exact (World.cell?_alloc_lt _ _ ⟨w.heap.size, 0, none⟩ (by simp)).trans ((Arr.new w 24 [.slice (some ⟨g, 0, none⟩) L.length cap]).cell 0)
  have hVq : V.cell? ⟨w.heap.size + 1, 0, none⟩ = some (.int .i64 d) := by rw [hV]; have := (Arr.new (w.alloc (.cells #[.slice (some ⟨g, 0, none⟩) L.length cap] 24)) 3 [.int .i64 d]).cell 0; rw [show (w.alloc (.cells #[.slice (some ⟨g, 0, none⟩) L.length cap] 24)).heap.size = w.heap.size + 1 by simp] at this; exact this
  have hoV : V.ownsRow lo 3 1 (.slice (some ⟨g, 0, none⟩) L.length cap) L.length (L.map (Value.int .i64)) := by rw [hV]; exact (ho.alloc _).alloc _
  have hgV : w.grownBy V (some g) := by rw [hV]; exact World.grownBy.trans (World.grownBy_alloc w _ _) (World.grownBy_alloc _ _ _)
  have HV := Lib.hid hV
  clear hL ho hV
  have hS : (L.map (Value.int .i64)) = ((mixL L d 0).map (Value.int .i64)) := by rw [mixL_zero]
  rw [hS] at hoV
  have HE := Lib.hid (mixL_all L d)
  clear hS
  obtain ⟨n, hn⟩ : ∃ n, n = L.length := ⟨_, rfl⟩
  have HN := Lib.hid hn
  rw [← hn] at hl hVp hoV HE HV
  rw [← hn]
  clear hn
  go_enter Tryz.func85, Tryz.ntmps85
  go_upto_region 1 with fail
  rw [← HV.out]
  clear HV
  go_wp2_with fail
  go_loopw [8] (fun i wr => ∃ k : Nat, k ≤ n ∧ i = .int .i64 (k : Int) ∧ wr.ownsRow lo 3 1 (.slice (some ⟨g, 0, none⟩) n cap) n ((mixL L d k).map (Value.int .i64)) ∧ wr.cell? ⟨w.heap.size, 0, none⟩ = some (.slice (some ⟨g, 0, none⟩) n cap) ∧ wr.cell? ⟨w.heap.size + 1, 0, none⟩ = some (.int .i64 d) ∧ w.grownBy wr (some g) ∧ w.heap.size + 2 ≤ wr.heap.size) (fun i _ => n - (intOf i).toNat)
  case atStart => exact ⟨0, Nat.zero_le _, rfl, hoV, hVp, hVq, hgV, by omega⟩
  case round =>
    clear hoV hVp hVq hgV hVs
    rename World => wr
    obtain ⟨k, hk, rfl, hown, hp, hq, hgr, hsz⟩ := hrel
    by_cases hlt : k < n
    · have hlti : (k : Int) < (n : Int) := by omega
      have hk0 : (0 : Int) ≤ (k : Int) := by omega
      have hkl : k < L.length := by rw [← HN.out]; exact hlt
      have hx := HL.out L[k] (List.getElem_mem hkl)
      have hck : wr.cell? ⟨g, k, none⟩ = some (.int .i64 L[k]) := by have := hown.cellAt k (by omega); rw [List.getElem?_map, mixL_at L d hkl] at this; exact this
      have hfz : wr.frozen? ⟨g, k, none⟩ = false := hown.frozenAt k
      have hst := hown.stored k (.int .i64 (L[k] * d))
      rw [← List.map_set, mixL_set L d hkl] at hst
      have hpb := prod_bnd hx hd
      have HO := Lib.hid hst.1.drew
      have HG := Lib.hid (grownBy_drew (hgr.trans hst.2))
      have HP := Lib.hid (hst.2.cell hp (by simp; omega))
      have HQ := Lib.hid (hst.2.cell hq (by simp; omega))
      have HZ := Lib.hid (Nat.le_trans hsz hst.2.size)
      clear hst hown hgr
      generalize L[k] = x at *
      go_wp2_with fail
      go_region
      go_wp2_with fail
      go_roundw
      case rel => exact ⟨k + 1, by omega, by go_num, HO.out, HP.out, HQ.out, HG.out, HZ.out⟩
      case measure => simp [intOf]; omega
    · obtain rfl : k = n := by omega
      have hlti : ¬ ((k : Nat) : Int) < (k : Int) := by omega
      rw [HE.out] at hown
      have HO := Lib.hid hown
      clear hown
      go_wp2_with fail
      go_ret
      exact ⟨rfl, HO.out, hp, hq, hgr, hsz⟩

set_option maxRecDepth 100000 in
set_option maxHeartbeats 3200000 in
theorem impl_restore (L : List Int) (d : Int) (lo g cap p q : Nat) (u : FrameMode) (w : World) (ho : w.ownsRow lo 3 1 (.slice (some ⟨g, 0, none⟩) L.length cap) L.length ((timesL L d).map (Value.int .i64))) (hL : ∀ x ∈ L, 1 ≤ x ∧ x ≤ 60) (hd : 1 ≤ d ∧ d ≤ 60) (hl : L.length ≤ 20)
    (hp : w.cell? ⟨p, 0, none⟩ = some (.slice (some ⟨g, 0, none⟩) L.length cap)) (hq : w.cell? ⟨q, 0, none⟩ = some (.int .i64 d)) (hpg : p ≠ g) (hqg : q ≠ g) :
    CallsD Tryz.prog 115 #[.pointer (some ⟨p, 0, none⟩), .pointer (some ⟨q, 0, none⟩)] u w fun e u' w' => u' = u ∧ (e = .returned (.tuple #[]) ∧
      w'.ownsRow lo 3 1 (.slice (some ⟨g, 0, none⟩) L.length cap) L.length (L.map (Value.int .i64)) ∧ w.grownBy w' (some g)) := by
  have HL := Lib.hid hL
  rw [← unL_zero] at ho
  have HE := Lib.hid (unL_all L d)
  clear hL
  obtain ⟨n, hn⟩ : ∃ n, n = L.length := ⟨_, rfl⟩
  have HN := Lib.hid hn
  rw [← hn] at hl hp ho HE
  rw [← hn]
  clear hn
  have hd0 : d ≠ 0 := by omega
  have hdz : (d == 0) = false := by rw [beq_eq_false_iff_ne]; exact hd0
  go_enter_d Tryz.func115, Tryz.ntmps115
  go_wp2_with fail
  go_loopw [5] (fun i wr => ∃ k : Nat, k ≤ n ∧ i = .int .i64 (k : Int) ∧ wr.ownsRow lo 3 1 (.slice (some ⟨g, 0, none⟩) n cap) n ((unL L d k).map (Value.int .i64)) ∧ wr.cell? ⟨p, 0, none⟩ = some (.slice (some ⟨g, 0, none⟩) n cap) ∧ wr.cell? ⟨q, 0, none⟩ = some (.int .i64 d) ∧ w.grownBy wr (some g)) (fun i _ => n - (intOf i).toNat)
  case atStart => exact ⟨0, Nat.zero_le _, rfl, ho, hp, hq, grownBy_refl _ _⟩
  case round =>
    clear ho hp hq
    rename World => wr
    obtain ⟨k, hk, rfl, hown, hp, hq, hgr⟩ := hrel
    by_cases hlt : k < n
    · have hlti : (k : Int) < (n : Int) := by omega
      have hk0 : (0 : Int) ≤ (k : Int) := by omega
      have hkl : k < L.length := by rw [← HN.out]; exact hlt
      have hx := HL.out L[k] (List.getElem_mem hkl)
      have hck : wr.cell? ⟨g, k, none⟩ = some (.int .i64 (L[k] * d)) := by have := hown.cellAt k (by omega); rw [List.getElem?_map, unL_at L d hkl] at this; exact this
      have hfz : wr.frozen? ⟨g, k, none⟩ = false := hown.frozenAt k
      have hst := hown.stored k (.int .i64 L[k])
      rw [← List.map_set, unL_set L d hkl] at hst
      have hpb := prod_bnd hx hd
      have hdv : (L[k] * d).tdiv d = L[k] := Int.mul_tdiv_cancel _ hd0
      have hwx : IntKind.i64.wrap L[k] = L[k] := IntWalk.i64_in _ (by omega)
      have HO := Lib.hid hst.1.drew
      have HG := Lib.hid (grownBy_drew (hgr.trans hst.2))
      have HP := Lib.hid (hst.2.cell hp (by simp; omega))
      have HQ := Lib.hid (hst.2.cell hq (by simp; omega))
      clear hst hown hgr
      generalize L[k] = x at *
      generalize x * d = xd at *
      go_wp2_with fail
      go_region
      go_wp2_with fail
      go_roundw
      case rel => exact ⟨k + 1, by omega, by go_num, HO.out, HP.out, HQ.out, HG.out⟩
      case measure => simp [intOf]; omega
    · obtain rfl : k = n := by omega
      have hlti : ¬ ((k : Nat) : Int) < (k : Int) := by omega
      rw [HE.out] at hown
      have HO := Lib.hid hown
      clear hown
      go_wp2_with fail
      go_end0
      exact ⟨rfl, HO.out, hgr⟩

theorem undGlu : ∃ d, Tryz.prog.underlying 49 = some d ∧ d.isRow = true := ⟨_, Tryz.underlying49, rfl⟩
theorem sizeGlu : (Tryz.prog.info? 49).map (·.size) = some 4 := by kernel_rfl
theorem zeroGlu : (Tryz.prog.info? 49).map (·.zero) = some (some (.agg [Value.slice none 0 0, .slice none 0 0, .int .i64 0, .int .i64 0].toArray)) := by kernel_rfl
theorem builtGl (v u : Value) (x y : Int) : Tryz.prog.built 49 [(0, .agg #[v]), (1, .agg #[u]), (2, .int .i64 x), (3, .int .i64 y)] = some [v, u, .int .i64 x, .int .i64 y].toArray := by kernel_rfl
theorem builtGl0 : Tryz.prog.built 49 [] = some [Value.slice none 0 0, .slice none 0 0, .int .i64 0, .int .i64 0].toArray := by kernel_rfl

theorem clone_anyG (L : List Int) (a : Option Addr) (c : Nat) (w : World) (hr : SlV w a (L.map (Value.int .i64))) (hb : L.length ≤ 1048576) :
    Calls Tryz.prog 114 #[.slice a L.length c] w fun e w' => ∃ v, e = .returned v ∧ w'.ownsRow w.heap.size 3 1 v L.length (L.map (Value.int .i64)) ∧ Below w.heap.size w w' := by
  by_cases hn : L = []
  · subst hn
    cases a with
    | none =>
      refine (Tryz.slices_Clone_int_nil 0 c w).mono ?_
      rintro e w' ⟨rfl, rfl⟩
      exact ⟨_, rfl, World.ownsRow_nil _ _ _ _, Below.refl _ _⟩
    | some ad =>
      refine (Tryz.slices_Clone_int_zero ad c w).mono ?_
      rintro e w' ⟨v, rfl, ho, -, hb⟩
      exact ⟨v, rfl, ho, hb⟩
  · obtain ⟨b, off, rfl, hbs, hc⟩ := hr.open (by intro h; rw [List.map_eq_nil_iff] at h; exact hn h)
    refine (Tryz.slices_Clone_int b off L.length c L w (Nat.le_refl _) (by omega) (fun j hj => ?_)).mono ?_
    · rw [List.getD_eq_getElem?_getD, List.getElem?_eq_getElem hj]
      exact hc j _ (by simp [hj])
    · rintro e w' ⟨v, rfl, ho, -, hb⟩
      rw [List.take_length] at ho
      exact ⟨v, rfl, ho, hb⟩

set_option maxRecDepth 100000 in
set_option maxHeartbeats 1600000 in
theorem impl_copyOf (L : List Int) (a : Option Addr) (c : Nat) (w : World) (hr : SlV w a (L.map (Value.int .i64))) (hb : L.length ≤ 1048576) :
    Calls Tryz.prog 84 #[.agg #[.slice a L.length c]] w fun e w' => ∃ a' c', e = .returned (.agg #[.slice a' L.length c']) ∧ w'.ownsRow w.heap.size 3 1 (.slice a' L.length c') L.length (L.map (Value.int .i64)) ∧ Below w.heap.size w w' := by
  obtain ⟨dS, hdS, hrS⟩ := undSg
  obtain ⟨U, hU⟩ : ∃ U, U = w.alloc (.cells #[.slice a L.length c] 26) := ⟨_, rfl⟩
  obtain ⟨V, hV⟩ : ∃ V, V = U.alloc (.cells [Value.slice none 0 0].toArray 26) := ⟨_, rfl⟩
  have hUe : U.heap.size = w.heap.size + 1 := by rw [hU]; simp
  have hbV : Below w.heap.size w V := by rw [hV, hU]; exact (box_below _ _).alloc (by simp) _
  have hcV : V.cell? ⟨w.heap.size, 0, none⟩ = some (.slice a L.length c) := by rw [hV]; exact (World.cell?_alloc_lt _ _ ⟨w.heap.size, 0, none⟩ (show w.heap.size < U.heap.size by omega)).trans (by rw [hU]; exact box_cell w _)
  have hAV : Arr V (w.heap.size + 1) 26 [Value.slice none 0 0] := by rw [hV, ← hUe]; exact Arr.new _ _ _
  have HV : Hid (V = (w.alloc (.cells #[.slice a L.length c] 26)).alloc (.cells [Value.slice none 0 0].toArray 26)) := Lib.hid (by rw [hV, hU])
  have hVs := hAV.lt
  have hc1 := clone_anyG L a c V (hr.below hbV) hb
  clear hU hV hr
  go_enter Tryz.func84, Tryz.ntmps84
  go_wp2_with (first | (refine wpList_alloc_arr 26 [Value.slice none 0 0] zeroSg rfl rfl ?_; rw [← HV.out]))
  refine hc1.mono ?_
  rintro e w1 ⟨v, rfl, ho, hb1⟩
  obtain ⟨a1, c1, rfl, -⟩ := row_open ho
  have hA1 := hAV.below hb1
  have hb2 := hbV.trans (hb1.mono hbV.size)
  have hap := own_apart ho (g := w.heap.size + 1) (.inl hVs)
  clear hc1 hcV
  go_wp2_with (first | (refine wpList_store_arr 26 (.tmp 2) (.tmp 6) (w.heap.size + 1) [Value.slice none 0 0] [Value.slice a1 L.length c1] rfl rfl rfl rfl hA1 rfl sizeSg (by simp [Value.oneCell']) ?_; intro w2 hA2 hg2 hz2; clear hz2))
  have hb3 := hb2.grown hg2 hb2.size (fun k hk => by cases hk; omega)
  exact bodyPost_ret (results_arr rfl _ _ (w.heap.size + 1) [Value.slice a1 L.length c1] dS rfl hA2 hdS hrS sizeSg) rfl ⟨_, _, rfl, ownsBase (ho.kept hg2 hap) hbV.size, hb3⟩

set_option maxRecDepth 100000 in
set_option maxHeartbeats 1600000 in
theorem impl_isFactorFor (G : List Int) (n : Int) (a : Option Addr) (c : Nat) (w : World) (hr : SlV w a (G.map (Value.int .i64))) (hb : G.length ≤ 1048576) :
    Calls Tryz.prog 83 #[.agg #[.slice a G.length c], .int .i64 n] w fun e w' => e = .returned (.bool (inB n 1 60 && hasN G n && !hasB G n)) ∧ Below w.heap.size w w' := by
  have hb0 := box_below w (.cells #[.slice a G.length c] 26)
  have hc0 := box_cell w (.slice a G.length c)
  have hr0 := hr.below hb0
  clear hr
  obtain ⟨U, hU⟩ : ∃ U, U = w.alloc (.cells #[.slice a G.length c] 26) := ⟨_, rfl⟩
  rw [← hU] at hb0 hc0 hr0
  have HU := Lib.hid hU
  have hlt : w.heap.size < U.heap.size := by rw [hU]; simp
  clear hU
  have c1 := impl_Contains G n a c U hr0 hb
  have c2 := fun w' (h : SlV w' a (G.map (Value.int .i64))) => impl_HasNumber G n a c w' h (by unfold maxLen; omega)
  cases hin : inB n 1 60
  · have hn : ¬ (1 ≤ n ∧ n ≤ 60) := fun h => by rw [inB_iff.2 h] at hin; cases hin
    rw [Bool.false_and, Bool.false_and]
    by_cases h1 : 1 ≤ n
    · have h2 : ¬ n ≤ 60 := fun h => hn ⟨h1, h⟩
      have hd1 : decide (n ≥ 1) = true := decide_eq_true h1
      have hd2 := decide_eq_false h2
      go_enter Tryz.func83, Tryz.ntmps83
      go_upto_region 1 with fail
      rw [← HU.out]
      go_wp2_with fail
      go_ret
      exact ⟨rfl, hb0⟩
    · have hd1 : decide (n ≥ 1) = false := decide_eq_false h1
      go_enter Tryz.func83, Tryz.ntmps83
      go_upto_region 1 with fail
      rw [← HU.out]
      go_wp2_with fail
      go_ret
      exact ⟨rfl, hb0⟩
  · obtain ⟨h1, h2⟩ := inB_iff.1 hin
    have hd1 : decide (n ≥ 1) = true := decide_eq_true h1
    have hd2 := decide_eq_true h2
    rw [Bool.true_and]
    generalize hasN G n = p at *
    generalize hasB G n = q at *
    cases p
    · rw [Bool.false_and]
      go_enter Tryz.func83, Tryz.ntmps83
      go_upto_region 1 with fail
      rw [← HU.out]
      go_wp2_with fail
      refine c1.mono ?_
      rintro e w1 ⟨rfl, hb1⟩
      go_wp2_with fail
      go_ret
      exact ⟨rfl, hb0.trans (hb1.mono hb0.size)⟩
    · rw [Bool.true_and]
      go_enter Tryz.func83, Tryz.ntmps83
      go_upto_region 1 with fail
      rw [← HU.out]
      go_wp2_with fail
      refine c1.mono ?_
      rintro e w1 ⟨rfl, hb1⟩
      have hc1 := (hb1.cell (p := ⟨w.heap.size, 0, none⟩) hlt).trans hc0
      have c3 := c2 w1 (hr0.below hb1)
      go_wp2_with fail
      refine c3.mono ?_
      rintro e w2 ⟨rfl, rfl⟩
      go_wp2_with fail
      go_ret
      exact ⟨rfl, hb0.trans (hb1.mono hb0.size)⟩
end Go.Proofs.YtipfonpaaebjjaaGreat
