/-
  CONTRACTS of the program's chapter 24: arfStep, ArfFailure, IsArf. (Own work: mk76.py.)
-/
import Derived.Test.YtipfonpaaebjjaaGreatSgAr
import Derived.Test.YtipfonpaaebjjaaGreatSgL
import Derived.Test.YtipfonpaaebjjaaGreatCh4I
import Derived.Maps.AppendAt
import Derived.WalkMore
namespace Go.Proofs.YtipfonpaaebjjaaGreat
open Go Go.RowKit
attribute [local go_sem] Oper.semAt_some

theorem results_tmp4i {fn : Func} {t u v x : Tmp} (h : fn.results = #[.tmp t, .tmp u, .tmp v, .tmp x]) (tmps : Array Value) (P : Program) (w : World) :
    (results fn tmps).run P w = .ok (.tuple #[tmps.getD t undef, tmps.getD u undef, tmps.getD v undef, tmps.getD x undef]) w := by
  simp [results, h]
theorem smallT_bnd {T : Nat → Bool} : ∀ x ∈ smallT T, 0 ≤ x ∧ x ≤ 199 := by
  intro x hx
  unfold smallT at hx
  obtain ⟨k, hk, rfl⟩ := List.mem_map.1 hx
  have h1 := (mem_upB.1 hk).1
  have h2 := (condT_int T).2
  constructor
  · simp
  · show (k : Int) ≤ 199; omega
theorem smallT_len (T : Nat → Bool) : (smallT T).length ≤ 200 := by
  unfold smallT; rw [List.length_map]
  exact Nat.le_trans (upB_len_le _ _) (condT_int T).2
def hasT (T : Nat → Bool) (z : Int) : Bool := if 200 ≤ z then true else if 0 ≤ z then T z.toNat else false
theorem hasT_el {G : List Int} (hs : isSgB G = true) : hasT (elF G) = hasN G := funext fun z => (hasN_way G z hs).symm
theorem zeroAdd : (Tryz.prog.info? 71).map (·.zero) = some (some (.agg [Value.int .i64 0, Value.int .i64 0, Value.int .i64 0].toArray)) := by kernel_rfl
theorem assAdd (v : Value) (w : World) : (Instr.typeAssert (.iface 71 v) 68 71 true).run Tryz.prog w = .ok (.tuple #[v, .bool true]) w := by kernel_rfl
theorem assEnd (v : Value) (w : World) : (Instr.typeAssert (.iface 74 v) 68 71 true).run Tryz.prog w = .ok (.tuple #[.agg #[.int .i64 0, .int .i64 0, .int .i64 0], .bool false]) w := by kernel_rfl
theorem sizeAdd : (Tryz.prog.info? 71).map (·.size) = some 3 := by kernel_rfl

set_option maxRecDepth 100000 in
set_option maxHeartbeats 1600000 in
theorem impl_arfStep (T : Nat → Bool) (w : World) :
    Calls Tryz.prog 63 #[.agg (tabB T 260).toArray] w fun e w' => e = .returned (if arfQ (smallT T) (hasT T) then .iface 71 (.agg #[.int .i64 (arfX (smallT T) (hasT T)), .int .i64 (arfY (smallT T) (hasT T)), .int .i64 (arfZ (smallT T) (hasT T))]) else .iface 74 (.agg #[])) ∧ Below w.heap.size w w' := by
  have c1 := fun W => impl_smallElements T W
  have hch := fun (z : Int) W => impl_has T z (hasT T z) W rfl
  have hA := (Arr.new w 64 (tabB T 260))
  have hB1 := box_below w (.cells (tabB T 260).toArray 64)
  obtain ⟨W1, hW1⟩ : ∃ W1, W1 = w.alloc (.cells (tabB T 260).toArray 64) := ⟨_, rfl⟩
  rw [← hW1] at hA hB1
  have hzw : w.heap.size < W1.heap.size := hA.lt
  have HW1 := Lib.hid hW1
  clear hW1
  have HSB := Lib.hid (smallT_bnd (T := T))
  have hsl := smallT_len T
  have HHIT := Lib.hid (fun i j k (h : FirstT (badT (smallT T) (hasT T)) (smallT T).length i j k) => arf_hit h)
  have HNON := Lib.hid (fun (h : ∀ i j k, i < (smallT T).length → j ≤ i → k ≤ j → badT (smallT T) (hasT T) i j k = false) => arf_none h)
  have HBAD := Lib.hid (fun i j k => show badT (smallT T) (hasT T) i j k = !hasT T ((smallT T).getD i 0 + (smallT T).getD j 0 - (smallT T).getD k 0) from rfl)
  generalize smallT T = S at *
  generalize arfX S (hasT T) = AX at *
  generalize arfY S (hasT T) = AY at *
  generalize arfZ S (hasT T) = AZ at *
  generalize arfQ S (hasT T) = AQ at *
  generalize badT S (hasT T) = bad at *
  obtain ⟨RV, hRV⟩ : ∃ RV : Value, RV = (if AQ then .iface 71 (.agg #[.int .i64 AX, .int .i64 AY, .int .i64 AZ]) else .iface 74 (.agg #[])) := ⟨_, rfl⟩
  rw [← hRV]
  have HRV := Lib.hid hRV
  clear hRV
  go_enter Tryz.func63, Tryz.ntmps63
  go_wp2_with (first
    | (refine wpList_box_arr 64 (.tmp 0) (tabB T 260) rfl rfl rfl ?_; rw [← HW1.out])
    | (refine wpList_load_arr 64 (.tmp 1) w.heap.size (tabB T 260) (.array 260 4) rfl rfl rfl hA undT rfl (sizeTl _) ?_))
  refine (c1 _).mono ?_
  rintro e w1 ⟨v1, rfl, ho1, hb1⟩
  obtain ⟨a1, k1, rfl, rX1⟩ := row_open ho1
  have HSL := Lib.hid rX1.slv
  have hkk : S.length ≤ k1 := by have := rX1.slw.le; rw [List.length_map] at this; exact this
  have HAT := Lib.hid (hA.below hb1)
  have hbw1 := hB1.trans (hb1.mono hB1.size)
  clear c1 ho1 rX1 hA hB1 hb1
  go_wp2_with fail
  go_loopw [14] (fun zi wr => ∃ i : Nat, i ≤ S.length ∧ zi = .int .i64 (i : Int) ∧ Hid (∀ a b c, a < i → b ≤ a → c ≤ b → bad a b c = false) ∧ Below w1.heap.size w1 wr) (fun zi _ => S.length - (intOf zi).toNat)
  case atStart => exact ⟨0, Nat.zero_le _, rfl, Lib.hid (fun a b c h => absurd h (Nat.not_lt_zero a)), Below.refl _ _⟩
  case round =>
    rename World => wr
    obtain ⟨i, hi, rfl, HI, hbel⟩ := hrel
    have hsz := hbel.size
    by_cases hlt : i < S.length
    · have hlti : (i : Int) < (S.length : Int) := by omega
      obtain ⟨b, off, rfl, hbs, hcl⟩ := HSL.out.open (by intro h; rw [List.map_eq_nil_iff] at h; rw [h] at hlt; simp at hlt)
      have HCK : Hid (∀ w', Below w1.heap.size w1 w' → ∀ (m : Nat) (hm : m < S.length), w'.cell? ⟨b, off + m, none⟩ = some (.int .i64 S[m])) := Lib.hid fun w' h m hm => (h.cell (p := ⟨b, off + m, none⟩) hbs).trans (hcl m _ (by simp [hm]))
      clear hbs hcl
      have hci := HCK.out _ hbel i hlt
      have hik : i + 1 ≤ k1 := by omega
      have hiki : (i : Int) + 1 ≤ (k1 : Int) := by omega
      have hx := HSB.out S[i] (List.getElem_mem hlt)
      have HGI : Hid (S.getD i 0 = S[i]) := Lib.hid (by simp [List.getD, hlt])
      generalize S[i] = x at *
      go_wp2_with fail
      go_loopw [24] (fun zj w2 => ∃ j : Nat, j ≤ i + 1 ∧ zj = .int .i64 (j : Int) ∧ Hid (∀ b c, b < j → c ≤ b → bad i b c = false) ∧ Below w1.heap.size w1 w2) (fun zj _ => i + 1 - (intOf zj).toNat)
      case atStart => exact ⟨0, Nat.zero_le _, rfl, Lib.hid (fun b c h => absurd h (Nat.not_lt_zero b)), hbel⟩
      case round =>
        clear hci
        rename World => w2
        obtain ⟨j, hj, rfl, HJ, hbel2⟩ := hrel
        have hsz2 := hbel2.size
        by_cases hjt : j ≤ i
        · have hjti : (j : Int) < (i : Int) + 1 := by omega
          have hjl : j < S.length := by omega
          have hcj := HCK.out _ hbel2 j hjl
          have hjk : j + 1 ≤ k1 := by omega
          have hjki : (j : Int) + 1 ≤ (k1 : Int) := by omega
          have hy := HSB.out S[j] (List.getElem_mem hjl)
          have HGJ : Hid (S.getD j 0 = S[j]) := Lib.hid (by simp [List.getD, hjl])
          generalize S[j] = y at *
          go_wp2_with fail
          go_loopw [34] (fun zk w3 => ∃ k : Nat, k ≤ j + 1 ∧ zk = .int .i64 (k : Int) ∧ Hid (∀ c, c < k → bad i j c = false) ∧ Below w1.heap.size w1 w3) (fun zk _ => j + 1 - (intOf zk).toNat)
          case atStart => exact ⟨0, Nat.zero_le _, rfl, Lib.hid (fun c h => absurd h (Nat.not_lt_zero c)), hbel2⟩
          case round =>
            clear hcj
            rename World => w3
            obtain ⟨k, hk, rfl, HKK, hbel3⟩ := hrel
            by_cases hkt : k ≤ j
            · have hkti : (k : Int) < (j : Int) + 1 := by omega
              have hkl : k < S.length := by omega
              have hck := HCK.out _ hbel3 k hkl
              have hz := HSB.out S[k] (List.getElem_mem hkl)
              have HB := Lib.hid (HBAD.out i j k)
              have HH := Lib.hid (HHIT.out i j k)
              rw [HGI.out, HGJ.out, show S.getD k 0 = S[k] by simp [List.getD, hkl]] at HB
              rw [HGI.out, HGJ.out, show S.getD k 0 = S[k] by simp [List.getD, hkl]] at HH
              generalize S[k] = z at *
              have hw1 : IntKind.i64.wrap (x + y) = x + y := IntWalk.i64_in _ (by omega)
              have hw2 : IntKind.i64.wrap (x + y - z) = x + y - z := IntWalk.i64_in _ (by omega)
              have ch := fun w' => hch (x + y - z) w'
              have hB3 := HAT.out.below hbel3
              generalize hasT T (x + y - z) = q at *
              go_wp2_with (first
                | (refine wpList_load_arr 64 (.tmp 1) w.heap.size (tabB T 260) (.array 260 4) rfl rfl rfl hB3 undT rfl (sizeTl _) ?_))
              refine (ch _).mono ?_
              rintro e w5 ⟨rfl, hb5⟩
              have hbF := hbel3.trans (hb5.mono hbel3.size)
              cases q
              · have HR := Lib.hid (HH.out ⟨hkt, hjt, hlt, HB.out, HKK.out, HJ.out, HI.out⟩)
                go_wp2_with fail
                go_ret
                obtain ⟨e1, e2, e3, e4⟩ := HR.out
                exact ⟨by rw [HRV.out, e4, if_pos rfl, e1, e2, e3]; rfl, hbw1.trans (hbF.mono hbw1.size)⟩
              · have HN : Hid (∀ c, c < k + 1 → bad i j c = false) := Lib.hid (fun c hc => by
                  rcases Nat.lt_or_ge c k with h | h
                  · exact HKK.out c h
                  · rw [show c = k by omega, HB.out]; rfl)
                go_wp2_with fail
                go_roundw
                case rel => exact ⟨k + 1, by omega, by go_num, HN, hbF⟩
                case measure => simp [intOf]; omega
            · have hkti : ¬ (k : Int) < (j : Int) + 1 := by omega
              have HN : Hid (∀ b c, b < j + 1 → c ≤ b → bad i b c = false) := Lib.hid (fun b c hb hc => by
                rcases Nat.lt_or_ge b j with h | h
                · exact HJ.out b c h hc
                · have : b = j := by omega
                  subst this; exact HKK.out c (by omega))
              go_wp2_with fail
              go_roundw
              case rel => exact ⟨j + 1, by omega, by go_num, HN, hbel3⟩
              case measure => simp [intOf]; omega
        · have hjti : ¬ (j : Int) < (i : Int) + 1 := by omega
          have HN : Hid (∀ a b c, a < i + 1 → b ≤ a → c ≤ b → bad a b c = false) := Lib.hid (fun a b c ha hb hc => by
            rcases Nat.lt_or_ge a i with h | h
            · exact HI.out a b c h hb hc
            · have : a = i := by omega
              subst this; exact HJ.out b c (by omega) hc)
          go_wp2_with fail
          go_roundw
          case rel => exact ⟨i + 1, by omega, by go_num, HN, hbel2⟩
          case measure => simp [intOf]; omega
    · have hlti : ¬ (i : Int) < (S.length : Int) := by omega
      have HR := Lib.hid (HNON.out (fun a b c ha hb hc => HI.out a b c (by omega) hb hc))
      go_wp2_with fail
      go_ret
      obtain ⟨e1, e2, e3, e4⟩ := HR.out
      exact ⟨by rw [HRV.out, e4, if_neg (by simp)]; rfl, hbw1.trans (hbel.mono hbw1.size)⟩

set_option maxRecDepth 100000 in
set_option maxHeartbeats 1600000 in
theorem impl_ArfFailure (G : List Int) (a : Option Addr) (cap : Nat) (w : World) (hr : SlV w a (G.map (Value.int .i64))) (hb : G.length ≤ 1048576) :
    Calls Tryz.prog 25 #[.agg #[.slice a G.length cap]] w fun e w' => e = .returned (.tuple #[.int .i64 (arfX (smallL G) (hasN G)), .int .i64 (arfY (smallL G) (hasN G)), .int .i64 (arfZ (smallL G) (hasN G)), .bool (arfQ (smallL G) (hasN G))]) ∧ Below w.heap.size w w' := by
  have hb0 := box_below w (.cells #[.slice a G.length cap] 26)
  have hc0 := box_cell w (.slice a G.length cap)
  have c1 := impl_elementsOf G a cap _ (hr.below hb0) hb
  have HT := fun f => Lib.hid (tabB_one f 260)
  have hta := assAdd
  have hte := assEnd
  clear hr
  unfold ElPost at c1
  cases hs : isSgB G
  · have HR := Lib.hid (arf_none (S := smallL G) (p := hasN G) (fun i j k hi => by rw [smallL_no hs] at hi; simp at hi))
    rw [hs] at c1
    clear hs
    go_enter Tryz.func25, Tryz.ntmps25
    go_wp2_with fail
    refine c1.mono ?_
    rintro e w1 ⟨rfl, hb1⟩
    have hbz := hb0.trans (hb1.mono hb0.size)
    have hA := Arr.new w1 64 (tabB (fun _ => false) 260)
    have hbz2 := hbz.alloc (o := .cells (tabB (fun _ => false) 260).toArray 64) hbz.size
    clear c1 hc0 hb1 hb0
    go_wp2_with (first
      | (refine wpList_alloc_arr 64 (tabB (fun _ => false) 260) zeroT rfl rfl ?_)
      | (refine wpList_store_arr 64 (.tmp 6) (.tmp 13) w1.heap.size (tabB (fun _ => false) 260) (tabB (elF G) 260) rfl rfl rfl rfl hA (by rw [tabB_length, tabB_length]) (sizeTl _) (HT _).out ?_; intro w3 hB hg3 hz3; have hb3 := hbz2.grown hg3 hbz2.size (fun k hk => by cases hk; exact hbz.size))
      | (refine wpList_load_arr 64 (.tmp 6) w1.heap.size (tabB (elF G) 260) (.array 260 4) rfl rfl rfl hB undT rfl (sizeTl _) ?_))
    (try simp only [Exit.inBlock, Exit.then])
    refine bodyPost_ret (results_tmp4i rfl _ _ _) rfl ?_
    obtain ⟨e1, e2, e3, e4⟩ := HR.out
    exact ⟨by rw [e1, e2, e3, e4]; rfl, hb3⟩
  · have cs := fun W => impl_arfStep (elF G) W
    rw [(smallT_el hs).1, hasT_el hs] at cs
    rw [hs] at c1
    clear hs
    have HZ := Lib.hid (fun h => arf_zero (S := smallL G) (p := hasN G) h)
    generalize arfX (smallL G) (hasN G) = AX at *
    generalize arfY (smallL G) (hasN G) = AY at *
    generalize arfZ (smallL G) (hasN G) = AZ at *
    generalize arfQ (smallL G) (hasN G) = AQ at *
    cases AQ
    · obtain ⟨z1, z2, z3⟩ := HZ.out rfl
      subst z1
      subst z2
      subst z3
      clear HZ
      rw [if_neg (by simp)] at cs
      go_enter Tryz.func25, Tryz.ntmps25
      go_wp2_with fail
      refine c1.mono ?_
      rintro e w1 ⟨rfl, hb1⟩
      have hbz := hb0.trans (hb1.mono hb0.size)
      have hA := Arr.new w1 64 (tabB (fun _ => false) 260)
      have hbz2 := hbz.alloc (o := .cells (tabB (fun _ => false) 260).toArray 64) hbz.size
      clear c1 hc0 hb1 hb0
      go_wp2_with (first
        | (refine wpList_alloc_arr 64 (tabB (fun _ => false) 260) zeroT rfl rfl ?_)
        | (refine wpList_store_arr 64 (.tmp 6) (.tmp 13) w1.heap.size (tabB (fun _ => false) 260) (tabB (elF G) 260) rfl rfl rfl rfl hA (by rw [tabB_length, tabB_length]) (sizeTl _) (HT _).out ?_; intro w3 hB hg3 hz3; have hb3 := hbz2.grown hg3 hbz2.size (fun k hk => by cases hk; exact hbz.size))
        | (refine wpList_load_arr 64 (.tmp 6) w1.heap.size (tabB (elF G) 260) (.array 260 4) rfl rfl rfl hB undT rfl (sizeTl _) ?_))
      refine (cs _).mono ?_
      rintro e w5 ⟨rfl, hb5⟩
      have hb5w := hb3.trans (hb5.mono hb3.size)
      have hN := Arr.new w5 71 [Value.int .i64 0, Value.int .i64 0, Value.int .i64 0]
      have hb5n := hb5w.alloc (o := .cells [Value.int .i64 0, Value.int .i64 0, Value.int .i64 0].toArray 71) hb5w.size
      clear cs
      go_wp2_with (first
        | (refine wpList_alloc_arr 71 [Value.int .i64 0, Value.int .i64 0, Value.int .i64 0] zeroAdd rfl rfl ?_)
        | (refine wpList_store_arr 71 (.tmp 8) (.tmp 21) w5.heap.size [Value.int .i64 0, Value.int .i64 0, Value.int .i64 0] [Value.int .i64 0, Value.int .i64 0, Value.int .i64 0] rfl rfl rfl rfl hN rfl sizeAdd (by simp [Value.oneCell']) ?_; intro w6 hN6 hg6 hz6; have hb6 := hb5n.grown hg6 hb5n.size (fun k hk => by cases hk; exact hb5w.size)))
      (try simp only [Exit.inBlock, Exit.then])
      refine bodyPost_ret (results_tmp4i rfl _ _ _) rfl ?_
      exact ⟨rfl, hb6⟩
    · rw [if_pos rfl] at cs
      go_enter Tryz.func25, Tryz.ntmps25
      go_wp2_with fail
      refine c1.mono ?_
      rintro e w1 ⟨rfl, hb1⟩
      have hbz := hb0.trans (hb1.mono hb0.size)
      have hA := Arr.new w1 64 (tabB (fun _ => false) 260)
      have hbz2 := hbz.alloc (o := .cells (tabB (fun _ => false) 260).toArray 64) hbz.size
      clear c1 hc0 hb1 hb0
      go_wp2_with (first
        | (refine wpList_alloc_arr 64 (tabB (fun _ => false) 260) zeroT rfl rfl ?_)
        | (refine wpList_store_arr 64 (.tmp 6) (.tmp 13) w1.heap.size (tabB (fun _ => false) 260) (tabB (elF G) 260) rfl rfl rfl rfl hA (by rw [tabB_length, tabB_length]) (sizeTl _) (HT _).out ?_; intro w3 hB hg3 hz3; have hb3 := hbz2.grown hg3 hbz2.size (fun k hk => by cases hk; exact hbz.size))
        | (refine wpList_load_arr 64 (.tmp 6) w1.heap.size (tabB (elF G) 260) (.array 260 4) rfl rfl rfl hB undT rfl (sizeTl _) ?_))
      refine (cs _).mono ?_
      rintro e w5 ⟨rfl, hb5⟩
      have hb5w := hb3.trans (hb5.mono hb3.size)
      have hN := Arr.new w5 71 [Value.int .i64 0, Value.int .i64 0, Value.int .i64 0]
      have hb5n := hb5w.alloc (o := .cells [Value.int .i64 0, Value.int .i64 0, Value.int .i64 0].toArray 71) hb5w.size
      clear cs
      go_wp2_with (first
        | (refine wpList_alloc_arr 71 [Value.int .i64 0, Value.int .i64 0, Value.int .i64 0] zeroAdd rfl rfl ?_)
        | (refine wpList_store_arr 71 (.tmp 8) (.tmp 21) w5.heap.size [Value.int .i64 0, Value.int .i64 0, Value.int .i64 0] [Value.int .i64 AX, Value.int .i64 AY, Value.int .i64 AZ] rfl rfl rfl rfl hN rfl sizeAdd (by simp [Value.oneCell']) ?_; intro w6 hN6 hg6 hz6; have hb6 := hb5n.grown hg6 hb5n.size (fun k hk => by cases hk; exact hb5w.size)))
      have hS0 : (w6.cell? ⟨w5.heap.size, 0, none⟩ = some (.int .i64 AX) ∧ w6.cell? ⟨w5.heap.size, 1, none⟩ = some (.int .i64 AY) ∧ w6.cell? ⟨w5.heap.size, 2, none⟩ = some (.int .i64 AZ)) := ⟨hN6.cell 0, hN6.cell 1, hN6.cell 2⟩
      have hS0 : (fun w' => (w'.cell? ⟨w5.heap.size, 0, none⟩ = some (.int .i64 AX) ∧ w'.cell? ⟨w5.heap.size, 1, none⟩ = some (.int .i64 AY) ∧ w'.cell? ⟨w5.heap.size, 2, none⟩ = some (.int .i64 AZ))) w6.drew := hS0
      refine wp_region_held_drew (S := fun w' => (w'.cell? ⟨w5.heap.size, 0, none⟩ = some (.int .i64 AX) ∧ w'.cell? ⟨w5.heap.size, 1, none⟩ = some (.int .i64 AY) ∧ w'.cell? ⟨w5.heap.size, 2, none⟩ = some (.int .i64 AZ))) (by kernel_rfl) hS0 (fun hHeld => ?_)
      refine held_take 0 _ _ rfl (by kernel_rfl) (by kernel_rfl) (by kernel_rfl) (fun _ _ _ h => h) (by rfl) hHeld (fun w hSw => by (try dsimp only at hSw); go_simp; try with_reducible rfl) ?_
      (try simp only [Act.put, List.setIfInBounds_toArray, List.set_cons_zero, List.set_cons_succ, List.getElem_toArray, List.getElem_cons_zero])
      refine held_take 1 _ _ rfl (by kernel_rfl) (by kernel_rfl) (by kernel_rfl) (fun _ _ _ h => h) (by rfl) hHeld (fun w hSw => by (try dsimp only at hSw); go_simp; try with_reducible rfl) ?_
      (try simp only [Act.put, List.setIfInBounds_toArray, List.set_cons_zero, List.set_cons_succ, List.getElem_toArray, List.getElem_cons_succ, List.getElem_cons_zero])
      refine held_take 2 _ _ rfl (by kernel_rfl) (by kernel_rfl) (by kernel_rfl) (fun _ _ _ h => h) (by rfl) hHeld (fun w hSw => by (try dsimp only at hSw); go_simp; try with_reducible rfl) ?_
      (try simp only [Act.put, List.setIfInBounds_toArray, List.set_cons_zero, List.set_cons_succ, List.getElem_toArray, List.getElem_cons_succ, List.getElem_cons_zero])
      refine held_take 3 _ _ rfl (by kernel_rfl) (by kernel_rfl) (by kernel_rfl) (fun _ _ _ h => h) (by rfl) hHeld (fun w hSw => by (try dsimp only at hSw); go_simp; try with_reducible rfl) ?_
      (try simp only [Act.put, List.setIfInBounds_toArray, List.set_cons_zero, List.set_cons_succ, List.getElem_toArray, List.getElem_cons_succ, List.getElem_cons_zero])
      refine held_take 4 _ _ rfl (by kernel_rfl) (by kernel_rfl) (by kernel_rfl) (fun _ _ _ h => h) (by rfl) hHeld (fun w hSw => by (try dsimp only at hSw); go_simp; try with_reducible rfl) ?_
      (try simp only [Act.put, List.setIfInBounds_toArray, List.set_cons_zero, List.set_cons_succ, List.getElem_toArray, List.getElem_cons_succ, List.getElem_cons_zero])
      refine held_take 5 _ _ rfl (by kernel_rfl) (by kernel_rfl) (by kernel_rfl) (fun _ _ _ h => h) (by rfl) hHeld (fun w hSw => by (try dsimp only at hSw); go_simp; try with_reducible rfl) ?_
      (try simp only [Act.put, List.setIfInBounds_toArray, List.set_cons_zero, List.set_cons_succ, List.getElem_toArray, List.getElem_cons_succ, List.getElem_cons_zero])
      refine held_take 6 _ _ rfl (by kernel_rfl) (by kernel_rfl) (by kernel_rfl) (fun _ _ _ h => h) (by rfl) hHeld (fun w hSw => by (try dsimp only at hSw); go_simp; try with_reducible rfl) ?_
      (try simp only [Act.put, List.setIfInBounds_toArray, List.set_cons_zero, List.set_cons_succ, List.getElem_toArray, List.getElem_cons_succ, List.getElem_cons_zero])
      refine held_take 7 _ _ rfl (by kernel_rfl) (by kernel_rfl) (by kernel_rfl) (fun _ _ _ h => h) (by rfl) hHeld (fun w hSw => by (try dsimp only at hSw); go_simp; try with_reducible rfl) ?_
      (try simp only [Act.put, List.setIfInBounds_toArray, List.set_cons_zero, List.set_cons_succ, List.getElem_toArray, List.getElem_cons_succ, List.getElem_cons_zero])
      refine held_take 8 _ _ rfl (by kernel_rfl) (by kernel_rfl) (by kernel_rfl) (fun _ _ _ h => h) (by rfl) hHeld (fun w hSw => by (try dsimp only at hSw); go_simp; try with_reducible rfl) ?_
      (try simp only [Act.put, List.setIfInBounds_toArray, List.set_cons_zero, List.set_cons_succ, List.getElem_toArray, List.getElem_cons_succ, List.getElem_cons_zero])
      refine held_take 9 _ _ rfl (by kernel_rfl) (by kernel_rfl) (by kernel_rfl) (fun _ _ _ h => h) (by rfl) hHeld (fun w hSw => by (try dsimp only at hSw); go_simp; try with_reducible rfl) ?_
      (try simp only [Act.put, List.setIfInBounds_toArray, List.set_cons_zero, List.set_cons_succ, List.getElem_toArray, List.getElem_cons_succ, List.getElem_cons_zero])
      refine wpAnyH_done (by kernel_rfl) ?_ _
      go_wp2_with fail
      (try simp only [Exit.inBlock, Exit.then])
      refine bodyPost_ret (results_tmp4i rfl _ _ _) rfl ?_
      exact ⟨rfl, hb6.drew⟩

set_option maxRecDepth 100000 in
set_option maxHeartbeats 1600000 in
theorem impl_IsArf (G : List Int) (a : Option Addr) (cap : Nat) (w : World) (hr : SlV w a (G.map (Value.int .i64))) (hb : G.length ≤ 1048576) :
    Calls Tryz.prog 24 #[.agg #[.slice a G.length cap]] w fun e w' => e = .returned (.bool (arfB G)) ∧ Below w.heap.size w w' := by
  have c1 := fun w2 (h : SlV w2 a (G.map (Value.int .i64))) => impl_ArfFailure G a cap w2 h hb
  have c2 := fun w2 (h : SlV w2 a (G.map (Value.int .i64))) => impl_IsSemigroup G a cap w2 h hb
  obtain ⟨V, hV⟩ : ∃ V, V = w.alloc (.cells #[.slice a G.length cap] 26) := ⟨_, rfl⟩
  have hbV : Below w.heap.size w V := by rw [hV]; exact box_below _ _
  have hcV : V.cell? ⟨w.heap.size, 0, none⟩ = some (.slice a G.length cap) := by rw [hV]; exact box_cell w _
  have hVs : w.heap.size < V.heap.size := by rw [hV]; simp
  have HV := Lib.hid hV
  have HRS := Lib.hid (fun w2 (h : Below V.heap.size V w2) => hr.below (hbV.trans (h.mono hbV.size)))
  have HKC := Lib.hid (fun w2 (h : Below V.heap.size V w2) => (h.cell (p := ⟨w.heap.size, 0, none⟩) (show w.heap.size < V.heap.size by omega)).trans hcV)
  clear hV hr
  have HR : Hid (arfB G = (isSgB G && !arfQ (smallL G) (hasN G))) := Lib.hid rfl
  have c1 := c1 V (HRS.out V (Below.refl _ _))
  generalize arfX (smallL G) (hasN G) = AX at *
  generalize arfY (smallL G) (hasN G) = AY at *
  generalize arfZ (smallL G) (hasN G) = AZ at *
  generalize arfQ (smallL G) (hasN G) = AQ at *
  generalize isSgB G = s at *
  go_enter Tryz.func24, Tryz.ntmps24
  go_wp2_with (rw [← HV.out])
  refine c1.mono ?_
  rintro e w1 ⟨rfl, hb1⟩
  have hkc := HKC.out _ hb1
  clear c1 hcV
  cases AQ
  · go_wp2_with fail
    refine (c2 _ (HRS.out _ hb1)).mono ?_
    rintro e w2 ⟨rfl, hb2⟩
    have hbF := hbV.trans ((hb1.trans (hb2.mono hb1.size)).mono hbV.size)
    go_wp2_with fail
    go_ret
    exact ⟨by rw [HR.out]; cases s <;> rfl, hbF⟩
  · go_wp2_with fail
    go_ret
    exact ⟨by rw [HR.out]; cases s <;> rfl, hbV.trans (hb1.mono hbV.size)⟩

end Go.Proofs.YtipfonpaaebjjaaGreat
