/-
  CONTRACTS of the program's chapter 24: BlowUp, MultiplicitySequence. (Own work: mk72.py.)
-/
import Derived.Test.YtipfonpaaebjjaaGreatSgAr
import Derived.Test.YtipfonpaaebjjaaGreatSgL
import Derived.Test.YtipfonpaaebjjaaGreatCh3I
import Derived.Test.YtipfonpaaebjjaaGreatI32
import Derived.Maps.AppendAt
import Derived.WalkMore
namespace Go.Proofs.YtipfonpaaebjjaaGreat
open Go Go.RowKit
attribute [local go_sem] Oper.semAt_some

set_option maxRecDepth 100000 in
set_option maxHeartbeats 1600000 in
theorem impl_BlowUp (G : List Int) (a : Option Addr) (cap : Nat) (w : World) (hr : SlV w a (G.map (Value.int .i64))) (hb : G.length ≤ 1048576) (hcap : G.length ≤ cap) :
    Calls Tryz.prog 27 #[.agg #[.slice a G.length cap]] w (SgPost (blowL G) (blowB G) w) := by
  obtain ⟨i0, hi, hz0, hz1, hz2⟩ := info_parts infoIntL
  have c1 := fun w2 (h : SlV w2 a (G.map (Value.int .i64))) => impl_IsSemigroup G a cap w2 h hb
  obtain ⟨dS, hdS, hrS⟩ := undSg
  obtain ⟨U, hU⟩ : ∃ U, U = (w.alloc (.cells #[.slice a G.length cap] 26)) := ⟨_, rfl⟩
  obtain ⟨V, hV⟩ : ∃ V, V = U.alloc (.cells [Value.slice none 0 0].toArray 26) := ⟨_, rfl⟩
  have hbU : Below w.heap.size w U := by rw [hU]; exact box_below _ _
  have hbUV : Below U.heap.size U V := by rw [hV]; exact box_below _ _
  have hbV := hbU.trans (hbUV.mono hbU.size)
  have hUe : U.heap.size = w.heap.size + 1 := by rw [hU]; simp
  have hcV : V.cell? ⟨w.heap.size, 0, none⟩ = some (.slice a G.length cap) := by rw [hV]; exact (World.cell?_alloc_lt _ _ ⟨w.heap.size, 0, none⟩ (show w.heap.size < U.heap.size by omega)).trans (by rw [hU]; exact box_cell w _)
  have hAV : Arr V (w.heap.size + 1) 26 [Value.slice none 0 0] := by rw [hV, ← hUe]; exact Arr.new _ _ _
  have hVs : w.heap.size + 1 < V.heap.size := hAV.lt
  have HV : Hid (V = (w.alloc (.cells #[.slice a G.length cap] 26)).alloc (.cells [Value.slice none 0 0].toArray 26)) := Lib.hid (by rw [hV, hU])
  have HRS := Lib.hid (fun w2 (h : Below V.heap.size V w2) => hr.below (hbV.trans (h.mono hbV.size)))
  have HKC := Lib.hid (fun w2 (h : Below V.heap.size V w2) => (h.cell (p := ⟨w.heap.size, 0, none⟩) (show w.heap.size < V.heap.size by omega)).trans hcV)
  have HAV := Lib.hid hAV
  clear hU hV hUe hbU hbUV hr hAV
  have c1 := c1 V (HRS.out V (Below.refl _ _))
  cases hs : isSgB G
  · have HB : Hid (blowB G = false) := Lib.hid (by unfold blowB; rw [hs]; rfl)
    have HL : Hid (blowL G = []) := Lib.hid (by unfold blowL; rw [hs]; rfl)
    rw [hs] at c1
    clear hs hi hz0 hz1 hz2
    go_enter Tryz.func27, Tryz.ntmps27
    go_wp2_with (first | (refine wpList_alloc_arr 26 [Value.slice none 0 0] zeroSg rfl rfl ?_; rw [← HV.out]))
    go_wp2_with fail
    refine c1.mono ?_
    rintro e w1 ⟨rfl, hb1⟩
    clear c1 hcV
    have hA9' := HAV.out.below hb1
    have hbw9 := hbV.trans (hb1.mono hbV.size)
    go_wp2_with (first | (refine wpList_store_arr 26 (.tmp 2) (.tmp 11) (w.heap.size + 1) [Value.slice none 0 0] [Value.slice none 0 0] rfl rfl rfl rfl hA9' rfl sizeSg (by simp [Value.oneCell']) ?_; intro w9 hA9 hg9 hz9; clear hz9))
    have hb9 := hbw9.grown hg9 hbw9.size (fun k hk => by cases hk; omega)
    exact bodyPost_ret (results_arr_tmp rfl _ _ (w.heap.size + 1) [Value.slice none 0 0] dS rfl hA9 hdS hrS sizeSg) rfl ⟨_, by rw [HB.out]; rfl, by rw [HL.out]; exact World.ownsRow_nil _ _ _ _, hb9⟩
  · rw [hs] at c1
    have HB : Hid (blowB G = fromB (blowG G)) := Lib.hid (by unfold blowB; rw [hs]; rfl)
    have HL : Hid (blowL G = fromL (blowG G)) := Lib.hid (by unfold blowL; rw [hs]; rfl)
    have hne : G ≠ [] := (isSgB_iff.1 hs).ne
    have hlen : G.length ≤ 12 := (isSgB_iff.1 hs).len
    have hl0 : 0 < G.length := List.length_pos_iff.2 hne
    have HBN := Lib.hid (isSgB_iff.1 hs).bounds
    have HF := Lib.hid (blowG_full hne)
    have HBL := Lib.hid (blowG_len hne)
    have h0b := HBN.out _ (List.getElem_mem hl0)
    have hhd := headD_get hl0
    have HONE := Lib.hid (blowG_one G)
    have HTK := Lib.hid (fun k => blowG_take (G := G) k)
    clear hs
    rw [hhd] at HONE
    rw [hhd] at HTK
    obtain ⟨b, off, rfl, hbsV, hclV⟩ := (HRS.out V (Below.refl _ _)).open (by simpa using hne)
    have HCK : Hid (∀ w2, Below V.heap.size V w2 → ∀ (j : Nat) (hj : j < G.length), w2.cell? ⟨b, off + j, none⟩ = some (.int .i64 G[j])) := Lib.hid fun w2 h j hj => (h.cell (p := ⟨b, off + j, none⟩) hbsV).trans (hclV j _ (by simp [hj]))
    clear hbsV hclV
    go_enter Tryz.func27, Tryz.ntmps27
    go_wp2_with (first | (refine wpList_alloc_arr 26 [Value.slice none 0 0] zeroSg rfl rfl ?_; rw [← HV.out]))
    go_wp2_with fail
    refine c1.mono ?_
    rintro e w1 ⟨rfl, hb1⟩
    have hkc := HKC.out _ hb1
    have hc0 : w1.cell? ⟨b, off, none⟩ = some (.int .i64 G[0]) := HCK.out _ hb1 0 hl0
    clear c1 hcV
    generalize hg0 : G[0] = g0 at *
    have hO1 : (w1.alloc (.cells #[.int .i64 g0] 3)).ownsRow V.heap.size 3 1 (.slice (some ⟨w1.heap.size, 0, none⟩) 1 1) ((blowG G).take 1).length (((blowG G).take 1).map (Value.int .i64)) := by rw [HONE.out]; exact World.ownsRow_lit w1 #[.int .i64 g0] 1 hb1.size (by decide) rfl
    have hB1 : Below V.heap.size V (w1.alloc (.cells #[.int .i64 g0] 3)) := hb1.alloc hb1.size _
    have HO1 := Lib.hid hO1
    clear hO1
    have hkc1 := HKC.out _ hB1
    have hl1 : (1 : Int) ≤ (G.length : Int) := by omega
    by_cases hc1 : cap = 1
    · go_wp2_with fail
      go_loopw [5, 22] (fun v i wr => ∃ k : Nat, 1 ≤ k ∧ k ≤ G.length ∧ i = .int .i64 ((k - 1 : Nat) : Int) ∧ wr.ownsRow V.heap.size 3 1 v ((blowG G).take k).length (((blowG G).take k).map (Value.int .i64)) ∧ Below V.heap.size V wr) (fun _ i _ => G.length - 1 - (intOf i).toNat)
      case atStart => exact ⟨1, Nat.le_refl _, by omega, rfl, HO1.out, hB1⟩
      case round =>
        clear HO1 hB1 hc0 hkc hkc1
        obtain ⟨k, hk1, hk, rfl, hown, hbel⟩ := hrel
        have hsz := hbel.size
        obtain ⟨j, rfl⟩ : ∃ j, k = j + 1 := ⟨k - 1, by omega⟩
        rw [Nat.add_sub_cancel]
        have hje : G.length = j + 1 := by omega
        have hlti : ¬ (j : Int) < (G.length : Int) - 1 := by omega
        have hlti2 : ¬ (j : Int) < ((G.length - 1 : Nat) : Int) := by omega
        rw [← hje, HF.out] at hown
        obtain ⟨a1, k1, rfl, rX⟩ := row_open hown
        have cf := impl_FromGens (blowG G) a1 k1 wr rX.slw (by have := HBL.out; omega)
        clear hown rX hje
        generalize fromB (blowG G) = fb at *
        generalize hK : fromL (blowG G) = K at *
        clear hK
        go_wp2_with fail
        refine cf.mono ?_
        rintro e w5 ⟨v5, rfl, ho5, hb5⟩
        have hb5V := hbel.trans (hb5.mono hsz)
        clear cf
        obtain ⟨a9, k9, rfl, -⟩ := row_open ho5
        have hA8 := HAV.out.below hb5V
        have hbw8 := hbV.trans (hb5V.mono hbV.size)
        have hsw8 := hb5V.size
        have hsb8 := hbel.size
        have hn7 := own_apart ho5 (g := w.heap.size + 1) (.inl (by omega))
        go_wp2_with (first | (refine wpList_store_arr 26 (.tmp 2) (.tmp 35) (w.heap.size + 1) [Value.slice none 0 0] [Value.slice a9 K.length k9] rfl rfl rfl rfl hA8 rfl sizeSg (by simp [Value.oneCell']) ?_; intro w9 hA9 hg9 hz9; clear hz9))
        have hb9 := hbw8.grown hg9 hbw8.size (fun k hk => by cases hk; omega)
        exact bodyPost_ret (results_arr_tmp rfl _ _ (w.heap.size + 1) [Value.slice a9 K.length k9] dS rfl hA9 hdS hrS sizeSg) rfl ⟨_, by rw [HB.out]; rfl, by rw [HL.out]; exact ownsBase (ho5.kept hg9 hn7) (by omega), hb9⟩
    · have hc2 : ¬ 1 = cap := fun h => hc1 h.symm
      go_wp2_with fail
      go_loopw [5, 22] (fun v i wr => ∃ k : Nat, 1 ≤ k ∧ k ≤ G.length ∧ i = .int .i64 ((k - 1 : Nat) : Int) ∧ wr.ownsRow V.heap.size 3 1 v ((blowG G).take k).length (((blowG G).take k).map (Value.int .i64)) ∧ Below V.heap.size V wr) (fun _ i _ => G.length - 1 - (intOf i).toNat)
      case atStart => exact ⟨1, Nat.le_refl _, by omega, rfl, HO1.out, hB1⟩
      case round =>
        clear HO1 hB1 hc0 hkc hkc1
        obtain ⟨k, hk1, hk, rfl, hown, hbel⟩ := hrel
        have hsz := hbel.size
        obtain ⟨j, rfl⟩ : ∃ j, k = j + 1 := ⟨k - 1, by omega⟩
        rw [Nat.add_sub_cancel]
        by_cases hlt : j + 1 < G.length
        · have hlti : (j : Int) < (G.length : Int) - 1 := by omega
          have hlti2 : (j : Int) < ((G.length - 1 : Nat) : Int) := by omega
          have hx := HBN.out G[j + 1] (List.getElem_mem hlt)
          have HT := Lib.hid (HTK.out (j + 1) hk1 hlt)
          have hMl : ((blowG G).take (j + 1)).length ≤ 12 := by rw [List.length_take]; omega
          have hck := HCK.out _ hbel (j + 1) hlt
          rw [show off + (j + 1) = off + 1 + j by omega] at hck
          generalize G[j + 1] = x at *
          generalize (blowG G).take (j + 1) = M at *
          have hw1 : IntKind.i64.wrap (x - g0) = x - g0 := IntWalk.i64_in _ (by omega)
          go_wp2_with (at_builtin; refine wpList_append_own _ rfl (.tmp 26) (.tmp 30) 24 rfl V.heap.size 3 i0 (Value.int .i64 0) 1 8 Tryz.underlying24 hi hz0 hz1 hz2 rfl (by decide) _ _ _ rfl (hown.alloc _) ⟨_, 0, none⟩ 1 1 [.int .i64 (x - g0)] rfl rfl (World.news_of_block (cs := #[.int .i64 (x - g0)]) (t := 3) (fr := (0, 0)) (heap_alloc_new _ _)) (by simp [Value.oneCell']) (by unfold maxLen; omega) (by omega) (by simp; omega) ?_; intro v6 w6 hown6 hg6 _)
          have hbel6 := (hbel.alloc hbel.size (.cells #[.int .i64 (x - g0)] 3)).grown hg6 (by simp; omega) (fun j hj => (hown.lt j hj).1)
          have HO : Hid (w6.ownsRow V.heap.size 3 1 v6 (M ++ [x - g0]).length ((M ++ [x - g0]).map (Value.int .i64))) := Lib.hid (by simpa using hown6)
          clear hown6 hg6 hown
          go_wp2_with fail
          go_roundw
          case rel => exact ⟨j + 1 + 1, by omega, by omega, by go_num, by rw [HT.out]; exact HO.out, hbel6⟩
          case measure => simp [intOf]; omega
        · have hje : G.length = j + 1 := by omega
          have hlti : ¬ (j : Int) < (G.length : Int) - 1 := by omega
          have hlti2 : ¬ (j : Int) < ((G.length - 1 : Nat) : Int) := by omega
          rw [← hje, HF.out] at hown
          obtain ⟨a1, k1, rfl, rX⟩ := row_open hown
          have cf := impl_FromGens (blowG G) a1 k1 wr rX.slw (by have := HBL.out; omega)
          clear hown rX hje
          generalize fromB (blowG G) = fb at *
          generalize hK : fromL (blowG G) = K at *
          clear hK
          go_wp2_with fail
          refine cf.mono ?_
          rintro e w5 ⟨v5, rfl, ho5, hb5⟩
          have hb5V := hbel.trans (hb5.mono hsz)
          clear cf
          obtain ⟨a9, k9, rfl, -⟩ := row_open ho5
          have hA8 := HAV.out.below hb5V
          have hbw8 := hbV.trans (hb5V.mono hbV.size)
          have hsw8 := hb5V.size
          have hsb8 := hbel.size
          have hn7 := own_apart ho5 (g := w.heap.size + 1) (.inl (by omega))
          go_wp2_with (first | (refine wpList_store_arr 26 (.tmp 2) (.tmp 35) (w.heap.size + 1) [Value.slice none 0 0] [Value.slice a9 K.length k9] rfl rfl rfl rfl hA8 rfl sizeSg (by simp [Value.oneCell']) ?_; intro w9 hA9 hg9 hz9; clear hz9))
          have hb9 := hbw8.grown hg9 hbw8.size (fun k hk => by cases hk; omega)
          exact bodyPost_ret (results_arr_tmp rfl _ _ (w.heap.size + 1) [Value.slice a9 K.length k9] dS rfl hA9 hdS hrS sizeSg) rfl ⟨_, by rw [HB.out]; rfl, by rw [HL.out]; exact ownsBase (ho5.kept hg9 hn7) (by omega), hb9⟩

set_option maxRecDepth 100000 in
set_option maxHeartbeats 1600000 in
theorem impl_MultiplicitySequence (G : List Int) (a : Option Addr) (cap : Nat) (w : World) (hr : SlV w a (G.map (Value.int .i64))) (hb : G.length ≤ 1048576) (hcap : G.length ≤ cap) :
    Calls Tryz.prog 29 #[.agg #[.slice a G.length cap]] w (ReadPost (seqF 201 G) w) := by
  obtain ⟨i0, hi, hz0, hz1, hz2⟩ := info_parts infoIntL
  have hA0 := Arr.new w 26 [.slice a G.length cap]
  have hb0 := box_below w (.cells #[.slice a G.length cap] 26)
  have hr0 := hr.below hb0
  obtain ⟨X, hX⟩ : ∃ X, X = w.alloc (.cells #[.slice a G.length cap] 26) := ⟨_, rfl⟩
  rw [show w.alloc (.cells [Value.slice a G.length cap].toArray 26) = X from hX.symm] at hA0
  rw [← hX] at hb0 hr0
  have hzX : X.heap.size = w.heap.size + 1 := by rw [hX]; simp
  have HX := Lib.hid hX
  clear hX
  have ci := impl_IsSemigroup G a cap X hr0 hb
  have hap0 : G.map (Value.int .i64) = [] ∨ ∀ b o, a = some ⟨b, o, none⟩ → ∀ j, Value.ownBlock (.slice none 0 0) = some j → j ≠ b := .inr fun b o e j hj => by simp [Value.ownBlock] at hj
  have hk0 := hA0.cell 0
  go_enter Tryz.func29, Tryz.ntmps29
  go_wp2_with (rw [← HX.out])
  refine ci.mono ?_
  rintro e w1 ⟨rfl, hb1⟩
  have hb01 := hb0.trans (hb1.mono hb0.size)
  have hS : (fun (u v : Value) (wr : World) => ∃ (out H : List Int) (aH : Option Addr) (cH f : Nat), SeqAt G out H f ∧ u = .bool (isSgB H) ∧ H.length ≤ cH ∧ wr.ownsRow (w.heap.size + 1) 3 1 v out.length (out.map (Value.int .i64)) ∧ Arr wr w.heap.size 26 [.slice aH H.length cH] ∧ SlV wr aH (H.map (Value.int .i64)) ∧ (H.map (Value.int .i64) = [] ∨ ∀ b o, aH = some ⟨b, o, none⟩ → ∀ j, Value.ownBlock v = some j → j ≠ b) ∧ H.length ≤ 1048576 ∧ w.heap.size + 1 ≤ wr.heap.size ∧ Below w.heap.size w wr) (.bool (isSgB G)) (.slice none 0 0) w1 := ⟨[], G, a, cap, 201, SeqAt.start G, rfl, hcap, World.ownsRow_nil _ _ _ _, hA0.below hb1, hr0.below hb1, hap0, hb, by have := hb1.size; omega, hb01⟩
  have HS := Lib.hid hS
  clear hS hap0 hA0 hb0 hr0 hr hb hb1 hb01 ci hk0
  generalize isSgB G = q0 at *
  go_wp2_with fail
  go_loopw [4, 5] (fun u v wr => ∃ (out H : List Int) (aH : Option Addr) (cH f : Nat), SeqAt G out H f ∧ u = .bool (isSgB H) ∧ H.length ≤ cH ∧ wr.ownsRow (w.heap.size + 1) 3 1 v out.length (out.map (Value.int .i64)) ∧ Arr wr w.heap.size 26 [.slice aH H.length cH] ∧ SlV wr aH (H.map (Value.int .i64)) ∧ (H.map (Value.int .i64) = [] ∨ ∀ b o, aH = some ⟨b, o, none⟩ → ∀ j, Value.ownBlock v = some j → j ≠ b) ∧ H.length ≤ 1048576 ∧ w.heap.size + 1 ≤ wr.heap.size ∧ Below w.heap.size w wr) (fun _ v _ => 202 - lenV v)
  case atStart => exact HS.out
  case round =>
    clear HS
    obtain ⟨out, H, aH, cH, f, hat, rfl, hcp, hownX, hAX, hslX, hap, hHl, hszX, hbX⟩ := hrel
    obtain ⟨cv, kv, rfl, -⟩ := row_open hownX
    have hkX := hAX.cell 0
    cases hs : isSgB H
    · have HR := Lib.hid (hat.outF hs)
      clear hs hat
      go_wp2_with fail
      go_ret2
      exact ⟨_, by rw [HR.out]; rfl, by rw [HR.out]; exact World.ownsRow_nil _ _ _ _, hbX⟩
    · obtain ⟨g, rfl⟩ := hat.pos hs
      have hml : multN H = H.headD 0 := by unfold multN; rw [if_pos hs]
      have cm := fun W (h : SlV W aH (H.map (Value.int .i64))) => impl_MultiplicityOf H aH cH W h hHl
      have hol : out.length ≤ 201 := by have := hat.len; omega
      have HLEN := Lib.hid hat.len
      have hbl := blowL_len H
      have hbb := blowB_sg H
      have cb := fun W (h : SlV W aH (H.map (Value.int .i64))) => impl_BlowUp H aH cH W h hHl hcp
      rw [hml] at cm
      rw [hbb] at cb
      have hat6 : ∀ W, SlV W aH (H.map (Value.int .i64)) → True := fun _ _ => trivial
      by_cases h1 : H.headD 0 = 1
      · have HR := Lib.hid (hat.doneF hs h1)
        rw [h1] at cm
        obtain ⟨h0, hh0⟩ : ∃ h0 : Int, h0 = 1 := ⟨1, rfl⟩
        rw [← hh0] at cm HR
        have hq : (h0 == 1) = true := by rw [hh0]; rfl
        clear hs hat h1 hml hbb hh0
        go_wp2_with fail
        refine (cm _ hslX).mono ?_
        rintro e w2 ⟨rfl, hb2⟩
        replace hownX := owns_below hownX hb2
        replace hAX := hAX.below hb2
        replace hslX := hslX.below hb2
        replace hbX := hbX.trans (hb2.mono hbX.size)
        replace hszX := Nat.le_trans hszX hb2.size
        clear hkX hb2
        go_wp2_with (first
              | (at_builtin; refine wpList_append_own _ rfl (.tmp 9) (.tmp 12) 24 rfl (w.heap.size + 1) 3 i0 (Value.int .i64 0) 1 8 Tryz.underlying24 hi hz0 hz1 hz2 rfl (by decide) _ _ _ rfl (hownX.alloc _) ⟨_, 0, none⟩ 1 1 [.int .i64 h0] rfl rfl (World.news_of_block (cs := #[.int .i64 h0]) (t := 3) (fr := (0, 0)) (heap_alloc_new _ _)) (by simp [Value.oneCell']) (by unfold maxLen; omega) (by omega) (by simp; omega) ?_; intro v6 w6 hown6 hg6 _; have hlx := hownX.lt; have hA6 := (hAX.alloc (.cells #[.int .i64 h0] 3)).grown hg6 (fun e => by have := (hlx _ e.symm).1; omega); have hsl6 := slv_grown (hslX.below (box_below _ (.cells #[.int .i64 h0] 3))) hg6 hap; have hbel6 := (hbX.alloc hbX.size (.cells #[.int .i64 h0] 3)).grown hg6 (by simp; omega) (fun j hj => by have := (hlx j hj).1; omega); have hsz6 : w.heap.size + 1 ≤ w6.heap.size := (by have := hg6.size; simp at this; omega); have hk6 := hA6.cell 0; have hc6 := hat6 _ hsl6))
        refine (cm _ hsl6).mono ?_
        rintro e w7 ⟨rfl, hb7⟩
        have hown7 := owns_below hown6 hb7
        have hbel7 := hbel6.trans (hb7.mono hbel6.size)
        clear cm hk6 hc6
        go_wp2_with fail
        go_ret2
        exact ⟨_, by rw [HR.out]; rfl, by rw [HR.out]; have := ownsBase hown7 (Nat.le_succ w.heap.size); simpa using this, hbel7⟩
      · have HN := Lib.hid (hat.next hs h1)
        clear hs hat hml hbb
        generalize H.headD 0 = h0 at *
        have hq : (h0 == 1) = false := by rw [beq_eq_false_iff_ne]; exact h1
        clear h1
        go_wp2_with fail
        refine (cm _ hslX).mono ?_
        rintro e w2 ⟨rfl, hb2⟩
        replace hownX := owns_below hownX hb2
        replace hAX := hAX.below hb2
        replace hslX := hslX.below hb2
        replace hbX := hbX.trans (hb2.mono hbX.size)
        replace hszX := Nat.le_trans hszX hb2.size
        clear hkX hb2
        go_wp2_with (first
              | (at_builtin; refine wpList_append_own _ rfl (.tmp 9) (.tmp 12) 24 rfl (w.heap.size + 1) 3 i0 (Value.int .i64 0) 1 8 Tryz.underlying24 hi hz0 hz1 hz2 rfl (by decide) _ _ _ rfl (hownX.alloc _) ⟨_, 0, none⟩ 1 1 [.int .i64 h0] rfl rfl (World.news_of_block (cs := #[.int .i64 h0]) (t := 3) (fr := (0, 0)) (heap_alloc_new _ _)) (by simp [Value.oneCell']) (by unfold maxLen; omega) (by omega) (by simp; omega) ?_; intro v6 w6 hown6 hg6 _; have hlx := hownX.lt; have hA6 := (hAX.alloc (.cells #[.int .i64 h0] 3)).grown hg6 (fun e => by have := (hlx _ e.symm).1; omega); have hsl6 := slv_grown (hslX.below (box_below _ (.cells #[.int .i64 h0] 3))) hg6 hap; have hbel6 := (hbX.alloc hbX.size (.cells #[.int .i64 h0] 3)).grown hg6 (by simp; omega) (fun j hj => by have := (hlx j hj).1; omega); have hsz6 : w.heap.size + 1 ≤ w6.heap.size := (by have := hg6.size; simp at this; omega); have hk6 := hA6.cell 0; have hc6 := hat6 _ hsl6))
        refine (cm _ hsl6).mono ?_
        rintro e w4 ⟨rfl, hb4⟩
        have hown4 := owns_below hown6 hb4
        have hA4 := hA6.below hb4
        have hsl4 := hsl6.below hb4
        have hbel4 := hbel6.trans (hb4.mono hbel6.size)
        have hsz4 := Nat.le_trans hsz6 hb4.size
        have hk4 := hA4.cell 0
        clear cm hk6 hc6 hAX hownX hslX hbX hlx hA6
        go_wp2_with fail
        refine (cb _ hsl4).mono ?_
        rintro e w7 ⟨v7, rfl, ho7, hb7⟩
        obtain ⟨a7, k7, rfl, rX7⟩ := row_open ho7
        have hown7 := owns_below hown4 hb7
        have hA7 := hA4.below hb7
        have hbel7 := hbel4.trans (hb7.mono hbel4.size)
        have hsz7 := Nat.le_trans hsz4 hb7.size
        have hl6 := hown4.lt
        have hl7 := ho7.lt
        clear cb hk4
        generalize hqq : isSgB (blowL H) = qq at *
        go_wp2_with (first | (refine wpList_store_arr 26 (.tmp 1) (.tmp 21) w.heap.size [Value.slice aH H.length cH] [Value.slice a7 (blowL H).length k7] rfl rfl rfl rfl hA7 rfl sizeSg (by simp [Value.oneCell']) ?_; intro w9 hA9 hg9 hz9))
        have hbel9 := hbel7.grown hg9 hbel7.size (fun k hk => by cases hk; exact Nat.le_refl _)
        have hown9 := hown7.kept hg9 (own_apart hown7 (g := w.heap.size) (.inl (by omega)))
        have hsl9 := slv_grown rX7.slv hg9 (.inr (fun b' o' e j hj => by cases hj; have := (hl7 b' (by rw [e]; rfl)).1; omega))
        have HO : Hid (w9.ownsRow (w.heap.size + 1) 3 1 v6 (out ++ [h0]).length ((out ++ [h0]).map (Value.int .i64))) := Lib.hid (by simpa using hown9)
        obtain ⟨c6, k6, e6, -⟩ := row_open hown6
        go_roundw
        case rel => exact ⟨out ++ [h0], blowL H, a7, k7, g, HN.out, by rw [hqq], by have := rX7.slw.le; rw [List.length_map] at this; exact this, HO.out, hA9, hsl9, .inr (fun b' o' e j hj => by have h1 := (hl6 j hj).2; have h2 := (hl7 b' (by rw [e]; rfl)).1; omega), by omega, by have := hg9.size; omega, hbel9⟩
        case measure => subst e6; simp [lenV]; omega

end Go.Proofs.YtipfonpaaebjjaaGreat
