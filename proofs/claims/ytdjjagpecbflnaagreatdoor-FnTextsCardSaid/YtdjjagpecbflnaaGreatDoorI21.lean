/-
  CONTRACTS of the program's chapter 5, second part: readSemigroup, ParseSemigroup. (Own work.)
-/
import Derived.Test.YtdjjagpecbflnaaGreatDoorL17
import Derived.Test.YtdjjagpecbflnaaGreatDoorI12
import Derived.Test.YtdjjagpecbflnaaGreatDoorSh
import Derived.Test.YtdjjagpecbflnaaGreatDoorAs
namespace Go.Proofs.YtdjjagpecbflnaaGreatDoor
open Go Go.RowKit

theorem sem_noP {s : ByteArray} (h : ∀ r, s.data.toList ≠ 60 :: r) : semO s = none := by
  cases hs : semO s with
  | none => rfl
  | some L =>
    obtain ⟨hi, he⟩ := semO_some hs
    exact absurd (show s.data.toList = 60 :: ((listText L).data.toList ++ [62]) by rw [← he, semText_yes hi, ba_app, ba_app]; rfl) (h _)
theorem sem_noS {s : ByteArray} {r : List UInt8} (hs : s.data.toList = 60 :: r) (h : ∀ t, r ≠ t ++ [62]) : semO s = none := by
  cases ho : semO s with
  | none => rfl
  | some L =>
    obtain ⟨hi, he⟩ := semO_some ho
    have e : s.data.toList = 60 :: ((listText L).data.toList ++ [62]) := by rw [← he, semText_yes hi, ba_app, ba_app]; rfl
    rw [hs] at e
    exact absurd (List.cons.inj e).2 (h _)
theorem sem_mid {s T : ByteArray} (hs : s.data.toList = 60 :: (T.data.toList ++ [62])) {L : List Int} : semO s = some L ↔ isSgB L = true ∧ readList T = some L := by
  have hst : s = ltB ++ T ++ gtB := ba_ext (by rw [hs, ba_app, ba_app]; rfl)
  rw [semO_iff]
  constructor
  · rintro ⟨hi, he⟩
    refine ⟨hi, ?_⟩
    have hT : listText L = T := by
      have h1 := ba_ext_mid (listText L)
      rw [← semText_yes hi, he, hst, ba_ext_mid] at h1
      exact h1.symm
    rw [← hT]
    exact readList_listText L (sg_small hi)
  · rintro ⟨hi, he⟩
    exact ⟨hi, by rw [semText_yes hi, listText_readList he, hst]⟩
theorem sem_mid_none {s T : ByteArray} (hs : s.data.toList = 60 :: (T.data.toList ++ [62])) (h : readList T = none) : semO s = none := by
  cases ho : semO s with
  | none => rfl
  | some L => have := ((sem_mid hs).1 ho).2; rw [h] at this; cases this
theorem sem_mid_not {s T : ByteArray} (hs : s.data.toList = 60 :: (T.data.toList ++ [62])) {L : List Int} (h : readList T = some L) (hn : isSgB L = false) : semO s = none := by
  cases ho : semO s with
  | none => rfl
  | some M =>
    obtain ⟨h1, h2⟩ := (sem_mid hs).1 ho
    rw [h] at h2
    cases h2
    rw [hn] at h1; cases h1

theorem cutP (s : ByteArray) : ∃ (R : ByteArray) (q : Bool), (∀ w, Calls Tryz.prog 45 #[.string s, .string ⟨#[60]⟩] w fun e w' => e = .returned (.tuple #[.string R, .bool q]) ∧ w' = w) ∧ R.size ≤ s.size ∧
    ((q = false ∧ semO s = none) ∨ (q = true ∧ s.data.toList = 60 :: R.data.toList)) := by
  refine ⟨⟨(Lib.trimPrefix s.data.toList [60]).toArray⟩, Lib.hasPrefix s.data.toList [60], fun w => Tryz.strings_CutPrefix s ⟨#[60]⟩ w, ?_, ?_⟩
  · have e1 : (⟨(Lib.trimPrefix s.data.toList [60]).toArray⟩ : ByteArray).size = (Lib.trimPrefix s.data.toList [60]).length := by simp [ByteArray.size]
    rw [e1, Lib.size_eq]
    unfold Lib.trimPrefix
    split
    · rw [List.length_drop]; omega
    · exact Nat.le_refl _
  · unfold Lib.trimPrefix
    cases h : Lib.hasPrefix s.data.toList [60]
    · refine .inl ⟨rfl, sem_noP fun r hr => ?_⟩
      rw [hr] at h
      simp [Lib.hasPrefix, List.isPrefixOf] at h
    · refine .inr ⟨rfl, ?_⟩
      rw [if_pos rfl]
      unfold Lib.hasPrefix at h
      rw [List.isPrefixOf_iff_prefix] at h
      obtain ⟨r, hr⟩ := h
      rw [← hr]; rfl
theorem cutS (R : ByteArray) (hR : R.size ≤ 1048576) : ∃ (T : ByteArray) (q : Bool), (∀ w, Calls Tryz.prog 46 #[.string R, .string ⟨#[62]⟩] w fun e w' => e = .returned (.tuple #[.string T, .bool q]) ∧ w' = w) ∧ T.size ≤ R.size ∧
    ((q = false ∧ ∀ t, R.data.toList ≠ t ++ [62]) ∨ (q = true ∧ R.data.toList = T.data.toList ++ [62])) := by
  refine ⟨⟨(Lib.trimSuffix R.data.toList [62]).toArray⟩, Lib.hasSuffix R.data.toList [62], fun w => Tryz.strings_CutSuffix R ⟨#[62]⟩ w (by omega), ?_, ?_⟩
  · have e1 : (⟨(Lib.trimSuffix R.data.toList [62]).toArray⟩ : ByteArray).size = (Lib.trimSuffix R.data.toList [62]).length := by simp [ByteArray.size]
    rw [e1, Lib.size_eq]
    unfold Lib.trimSuffix
    split
    · rw [List.length_take]; omega
    · exact Nat.le_refl _
  · unfold Lib.trimSuffix
    cases h : Lib.hasSuffix R.data.toList [62]
    · refine .inl ⟨rfl, fun t ht => ?_⟩
      have h2 : [62].isSuffixOf R.data.toList = true := List.isSuffixOf_iff_suffix.2 ⟨t, ht.symm⟩
      unfold Lib.hasSuffix at h
      rw [h] at h2; cases h2
    · refine .inr ⟨rfl, ?_⟩
      rw [if_pos rfl]
      unfold Lib.hasSuffix at h
      rw [List.isSuffixOf_iff_suffix] at h
      obtain ⟨t, ht⟩ := h
      rw [← ht]
      simp
def RsPost (s : ByteArray) (w : World) (e : Ending) (w' : World) : Prop :=
  ∃ v err, e = .returned (.tuple #[.agg #[v], err]) ∧ w'.ownsRow w.heap.size 3 1 v (semRead s).length ((semRead s).map (Value.int .i64)) ∧ Below w.heap.size w w' ∧ ((semOk s = true ∧ err = .nilIface) ∨ (semOk s = false ∧ ∃ b, err = .iface 44 (.string b)))

set_option maxRecDepth 100000 in
set_option maxHeartbeats 1600000 in
theorem impl_readSemigroup (s : ByteArray) (w : World) (hs : s.size ≤ 1048576) (hv : EnvParse w) :
    Calls Tryz.prog 23 #[.string s] w (RsPost s w) := by
  have hb0 := box_below w (.cells #[.slice none 0 0] 26)
  have hc0 := box_cell w (.slice none 0 0)
  have hf0 : (w.alloc (.cells #[.slice none 0 0] 26)).frozen? ⟨w.heap.size, 0, none⟩ = false := (Arr.new w 26 [.slice none 0 0]).frozen 0
  have hsz : w.heap.size < (w.alloc (.cells #[.slice none 0 0] 26)).heap.size := by simp
  obtain ⟨R, q1, cP, hR, hq1⟩ := cutP s
  obtain ⟨T, q2, cS, hT, hq2⟩ := cutS R (by omega)
  have hcp := cP (w.alloc (.cells #[.slice none 0 0] 26))
  have hcs := cS (w.alloc (.cells #[.slice none 0 0] 26))
  go_enter Tryz.func23, Tryz.ntmps23
  go_wp2_with fail
  refine hcp.mono ?_
  rintro e w' ⟨rfl, rfl⟩
  go_wp2_with fail
  refine hcs.mono ?_
  rintro e w' ⟨rfl, rfl⟩
  clear cP cS hcp hcs
  rcases hq1 with ⟨rfl, hO⟩ | ⟨rfl, hP⟩
  · have HR := Lib.hid (sem_none hO)
    clear hO hq2
    go_wp2_with fail
    exact bodyPost_ret (v := .tuple #[.agg #[.slice none 0 0], .iface 44 (.string ⟨#[98, 114, 97, 99, 107, 101, 116, 115, 32, 97, 114, 101, 32, 109, 105, 115, 115, 105, 110, 103]⟩)]) (by simp [results, Tryz.results23, go_sem]) rfl ⟨_, _, rfl, by rw [HR.out.1]; exact World.ownsRow_nil _ _ _ _, hb0, .inr ⟨HR.out.2, _, rfl⟩⟩
  · rcases hq2 with ⟨rfl, hN⟩ | ⟨rfl, hS⟩
    · have HR := Lib.hid (sem_none (sem_noS hP hN))
      clear hP hN
      go_wp2_with fail
      exact bodyPost_ret (v := .tuple #[.agg #[.slice none 0 0], .iface 44 (.string ⟨#[98, 114, 97, 99, 107, 101, 116, 115, 32, 97, 114, 101, 32, 109, 105, 115, 115, 105, 110, 103]⟩)]) (by simp [results, Tryz.results23, go_sem]) rfl ⟨_, _, rfl, by rw [HR.out.1]; exact World.ownsRow_nil _ _ _ _, hb0, .inr ⟨HR.out.2, _, rfl⟩⟩
    · rw [hS] at hP
      have hTs : T.size ≤ 1048574 := by
        have h1 := congrArg List.length hP
        have h2 := Lib.size_eq s
        have h3 := Lib.size_eq T
        simp only [List.length_cons, List.length_append, List.length_nil] at h1
        omega
      have c1 := impl_ParseList T (w.alloc (.cells #[.slice none 0 0] 26)) (by omega) (hv.below hb0)
      have hrl := readList_length_le T
      clear hS
      cases hr : readList T with
      | none =>
        have HR := Lib.hid (sem_none (sem_mid_none hP hr))
        rw [hr] at c1
        clear hr hP hrl
        go_wp2_with fail
        refine c1.mono ?_
        rintro e w1 ⟨v, rfl, ho, hb1⟩
        obtain ⟨a1, k1, rfl, rX⟩ := row_open ho
        have hc1 : w1.cell? ⟨w.heap.size, 0, none⟩ = some (.slice none 0 0) := (hb1.cell (p := ⟨w.heap.size, 0, none⟩) hsz).trans hc0
        have hf1 : w1.frozen? ⟨w.heap.size, 0, none⟩ = false := (hb1.frozen (p := ⟨w.heap.size, 0, none⟩) hsz).trans hf0
        have hbz1 := hb0.trans (hb1.mono (Nat.le_of_lt hsz))
        clear c1 ho hb1 hc0 hf0 rX
        dsimp only [Option.getD_none, List.length_nil, Option.isSome_none]
        go_wp2_with fail
        have hcf := World.cell?_setCell_same w1 ⟨w.heap.size, 0, none⟩ (.slice none 0 0) hc1
        exact bodyPost_ret (v := .tuple #[.agg #[.slice none 0 0], .iface 44 (.string ⟨#[98, 101, 116, 119, 101, 101, 110, 32, 116, 104, 101, 32, 98, 114, 97, 99, 107, 101, 116, 115, 32, 105, 115, 32, 110, 111, 32, 108, 105, 115, 116]⟩)]) (by simp [results, Tryz.results23, go_sem, hcf]) rfl ⟨_, _, rfl, by rw [HR.out.1]; exact World.ownsRow_nil _ _ _ _, hbz1.setCell (p := ⟨w.heap.size, 0, none⟩) (Nat.le_refl _) _, .inr ⟨HR.out.2, _, rfl⟩⟩
      | some L =>
        rw [hr] at c1 hrl
        dsimp only [Option.getD_some] at hrl
        have HM := Lib.hid (fun h => sem_none (sem_mid_not hP hr h))
        have HS := Lib.hid (fun h => sem_some ((sem_mid hP).2 ⟨h, hr⟩))
        clear hP hr
        go_wp2_with fail
        refine c1.mono ?_
        rintro e w1 ⟨v, rfl, ho, hb1⟩
        obtain ⟨a1, k1, rfl, rX⟩ := row_open ho
        dsimp only [Option.getD_some, Option.isSome_some] at ho rX ⊢
        have hc1 : w1.cell? ⟨w.heap.size, 0, none⟩ = some (.slice none 0 0) := (hb1.cell (p := ⟨w.heap.size, 0, none⟩) hsz).trans hc0
        have hf1 : w1.frozen? ⟨w.heap.size, 0, none⟩ = false := (hb1.frozen (p := ⟨w.heap.size, 0, none⟩) hsz).trans hf0
        have hz1 := Nat.lt_of_lt_of_le hsz hb1.size
        have hbz1 := hb0.trans (hb1.mono (Nat.le_of_lt hsz))
        have hb2 := box_below w1 (.cells #[.slice a1 L.length k1] 26)
        have hc2 := box_cell w1 (.slice a1 L.length k1)
        have c3 := impl_IsSemigroup L a1 k1 (w1.alloc (.cells #[.slice a1 L.length k1] 26)) (rX.slv.below hb2) (by omega)
        have hz2 : w1.heap.size < (w1.alloc (.cells #[.slice a1 L.length k1] 26)).heap.size := by simp
        have hc12 : (w1.alloc (.cells #[.slice a1 L.length k1] 26)).cell? ⟨w.heap.size, 0, none⟩ = some (.slice none 0 0) := (hb2.cell (p := ⟨w.heap.size, 0, none⟩) hz1).trans hc1
        have hf12 : (w1.alloc (.cells #[.slice a1 L.length k1] 26)).frozen? ⟨w.heap.size, 0, none⟩ = false := (hb2.frozen (p := ⟨w.heap.size, 0, none⟩) hz1).trans hf1
        have hbz2 := hbz1.trans (hb2.mono hbz1.size)
        have HOW := Lib.hid ho
        have hzz := Nat.lt_trans hz1 hz2
        clear c1 ho rX hc0 hf0 hc1 hf1 hrl
        cases hi : isSgB L
        · have HR := Lib.hid (HM.out hi)
          rw [hi] at c3
          clear hi HM HS HOW
          generalize L.length = N at *
          go_wp2_with fail
          refine c3.mono ?_
          rintro e w3 ⟨rfl, hb3⟩
          have hc3 : w3.cell? ⟨w.heap.size, 0, none⟩ = some (.slice none 0 0) := (hb3.cell (p := ⟨w.heap.size, 0, none⟩) hzz).trans hc12
          have hf3 : w3.frozen? ⟨w.heap.size, 0, none⟩ = false := (hb3.frozen (p := ⟨w.heap.size, 0, none⟩) hzz).trans hf12
          have hbz3 := hbz2.trans (hb3.mono hbz2.size)
          clear c3 hc12 hf12 hb2 hc2 hb1 hb0
          go_wp2_with fail
          have hcf := World.cell?_setCell_same w3 ⟨w.heap.size, 0, none⟩ (.slice none 0 0) hc3
          exact bodyPost_ret (v := .tuple #[.agg #[.slice none 0 0], .iface 44 (.string ⟨#[116, 104, 101, 32, 108, 105, 115, 116, 32, 105, 115, 32, 110, 111, 116, 32, 116, 104, 101, 32, 71, 101, 110, 115, 32, 111, 102, 32, 97, 32, 115, 101, 109, 105, 103, 114, 111, 117, 112]⟩)]) (by simp [results, Tryz.results23, go_sem, hcf]) rfl ⟨_, _, rfl, by rw [HR.out.1]; exact World.ownsRow_nil _ _ _ _, hbz3.setCell (p := ⟨w.heap.size, 0, none⟩) (Nat.le_refl _) _, .inr ⟨HR.out.2, _, rfl⟩⟩
        · have HR := Lib.hid (HS.out hi)
          rw [hi] at c3
          clear hi HM HS
          generalize hN : L.length = N at *
          have HNN := Lib.hid hN
          clear hN
          go_wp2_with fail
          refine c3.mono ?_
          rintro e w3 ⟨rfl, hb3⟩
          have hc3 : w3.cell? ⟨w.heap.size, 0, none⟩ = some (.slice none 0 0) := (hb3.cell (p := ⟨w.heap.size, 0, none⟩) hzz).trans hc12
          have hf3 : w3.frozen? ⟨w.heap.size, 0, none⟩ = false := (hb3.frozen (p := ⟨w.heap.size, 0, none⟩) hzz).trans hf12
          have hcs : w3.cell? ⟨w1.heap.size, 0, none⟩ = some (.slice a1 N k1) := (hb3.cell (p := ⟨w1.heap.size, 0, none⟩) hz2).trans hc2
          have hbz3 := hbz2.trans (hb3.mono hbz2.size)
          clear c3 hc12 hf12 hc2 hb0
          go_wp2_with fail
          have hcf := World.cell?_setCell_same w3 ⟨w.heap.size, 0, none⟩ (.slice a1 N k1) hc3
          refine bodyPost_ret (v := .tuple #[.agg #[.slice a1 N k1], .nilIface]) (by simp [results, Tryz.results23, go_sem, hcf]) rfl ⟨_, _, rfl, ?_, hbz3.setCell (p := ⟨w.heap.size, 0, none⟩) (Nat.le_refl _) _, .inl ⟨HR.out.2, rfl⟩⟩
          rw [HR.out.1]
          obtain rfl := HNN.out
          have ho := HOW.out
          refine ownsBase (row_kept ho fun j hj => ?_) (Nat.le_of_lt hsz)
          obtain ⟨hj1, hj2⟩ := ho.lt j hj
          rw [heap_setCell_other w3 ⟨w.heap.size, 0, none⟩ j _ (by show j ≠ w.heap.size; omega), hb3.block j (by omega), hb2.block j hj2]
structure EnvSem (w : World) : Prop where
  parse : EnvParse w
  err : ErrTypeIs w
theorem EnvSem.below {w w' : World} (h : EnvSem w) (hb : Below w.heap.size w w') : EnvSem w' := ⟨h.parse.below hb, h.err.below hb⟩

set_option maxRecDepth 100000 in
set_option maxHeartbeats 1600000 in
theorem impl_ParseSemigroup (s : ByteArray) (w : World) (hs : s.size ≤ 1048576) (hv : EnvSem w) :
    Calls Tryz.prog 8 #[.string s] w (SgPost (semRead s) (semOk s) w) := by
  have hb0 := box_below w (.cells #[.slice none 0 0] 26)
  have hc0 := box_cell w (.slice none 0 0)
  have hf0 : (w.alloc (.cells #[.slice none 0 0] 26)).frozen? ⟨w.heap.size, 0, none⟩ = false := (Arr.new w 26 [.slice none 0 0]).frozen 0
  have hsz : w.heap.size < (w.alloc (.cells #[.slice none 0 0] 26)).heap.size := by simp
  have c1 := impl_readSemigroup s (w.alloc (.cells #[.slice none 0 0] 26)) hs (hv.parse.below hb0)
  have henv := hv.err
  clear hv
  go_enter Tryz.func8, Tryz.ntmps8
  go_wp2_with fail
  refine c1.mono ?_
  rintro e w1 ⟨v, err, rfl, ho, hb1, hok⟩
  obtain ⟨a1, k1, rfl, rX⟩ := row_open ho
  have hc1 : w1.cell? ⟨w.heap.size, 0, none⟩ = some (.slice none 0 0) := (hb1.cell (p := ⟨w.heap.size, 0, none⟩) hsz).trans hc0
  have hf1 : w1.frozen? ⟨w.heap.size, 0, none⟩ = false := (hb1.frozen (p := ⟨w.heap.size, 0, none⟩) hsz).trans hf0
  have hz1 := Nat.lt_of_lt_of_le hsz hb1.size
  have hbz1 := hb0.trans (hb1.mono (Nat.le_of_lt hsz))
  have hb2 := box_below w1 (.cells #[.slice a1 (semRead s).length k1] 26)
  have hc2 := box_cell w1 (.slice a1 (semRead s).length k1)
  have hz2 : w1.heap.size < (w1.alloc (.cells #[.slice a1 (semRead s).length k1] 26)).heap.size := by simp
  have hb3 := hb2.alloc (o := .cells #[.string ⟨#[]⟩] 44) hb2.size
  have hA3 := Arr.new (w1.alloc (.cells #[.slice a1 (semRead s).length k1] 26)) 44 [.string ⟨#[]⟩]
  rw [World.size_alloc] at hA3
  have hc3 : ((w1.alloc (.cells #[.slice a1 (semRead s).length k1] 26)).alloc (.cells #[.string ⟨#[]⟩] 44)).cell? ⟨w1.heap.size, 0, none⟩ = some (.slice a1 (semRead s).length k1) := (World.cell?_alloc_lt _ _ ⟨w1.heap.size, 0, none⟩ hz2).trans hc2
  have hc13 := (hb3.cell (p := ⟨w.heap.size, 0, none⟩) hz1).trans hc1
  have hf13 := (hb3.frozen (p := ⟨w.heap.size, 0, none⟩) hz1).trans hf1
  have hbz3 := hbz1.trans (hb3.mono hbz1.size)
  have henv3 := henv.below hbz3
  have hzw3 : ((w1.alloc (.cells #[.slice a1 (semRead s).length k1] 26)).alloc (.cells #[.string ⟨#[]⟩] 44)).heap.size = w1.heap.size + 2 := by simp
  have HOW := Lib.hid ho
  have HC1 := Lib.hid hc1
  clear c1 ho rX hc0 hf0 hc1 hf1 henv hb2 hc2
  generalize hN : (semRead s).length = N at *
  have HNN := Lib.hid hN
  clear hN
  have HB3 := Lib.hid hb3
  rcases hok with ⟨hk, rfl⟩ | ⟨hk, b, rfl⟩
  · have ca := as_nil (.iface 46 (.pointer (some ⟨w1.heap.size + 1, 0, none⟩))) ((w1.alloc (.cells #[.slice a1 N k1] 26)).alloc (.cells #[.string ⟨#[]⟩] 44))
    have HR := Lib.hid hk
    clear hk hb3 henv3 hA3
    go_wp2_with fail
    refine ca.mono ?_
    rintro e w' ⟨rfl, rfl⟩
    clear ca
    go_wp2_with fail
    have hcf : (((w1.setCell ⟨w.heap.size, 0, none⟩ (.slice a1 N k1)).alloc (.cells #[.slice a1 N k1] 26)).alloc (.cells #[.string ⟨#[]⟩] 44)).cell? ⟨w.heap.size, 0, none⟩ = some (.slice a1 N k1) := by
      rw [World.cell?_alloc_lt _ _ _ (by simp; omega), World.cell?_alloc_lt _ _ _ (by simp; omega)]
      exact World.cell?_setCell_same w1 ⟨w.heap.size, 0, none⟩ (.slice a1 N k1) HC1.out
    refine bodyPost_ret (v := .tuple #[.agg #[.slice a1 N k1], .bool true]) (by simp [results, Tryz.results8, go_sem, hcf]) rfl ⟨_, by rw [HR.out], ?_, ((hbz1.setCell (p := ⟨w.heap.size, 0, none⟩) (Nat.le_refl _) _).alloc (by simp; omega) _).alloc (by simp; omega) _⟩
    obtain rfl := HNN.out
    have ho := HOW.out
    refine ownsBase (row_kept ho fun j hj => ?_) (Nat.le_of_lt hsz)
    obtain ⟨hj1, hj2⟩ := ho.lt j hj
    rw [heap_alloc_old _ _ (by simp; omega), heap_alloc_old _ _ (by simp; omega), heap_setCell_other w1 ⟨w.heap.size, 0, none⟩ j _ (by show j ≠ w.heap.size; omega)]
  · have ca : Calls Tryz.prog 24 #[.iface 44 (.string b), .iface 46 (.pointer (some ⟨w1.heap.size + 1, 0, none⟩))] ((w1.alloc (.cells #[.slice a1 N k1] 26)).alloc (.cells #[.string ⟨#[]⟩] 44)) fun e w' =>
        e = .returned (.bool true) ∧ Below (w1.heap.size + 1) ((w1.alloc (.cells #[.slice a1 N k1] 26)).alloc (.cells #[.string ⟨#[]⟩] 44)) w' :=
      (as_hit b ⟨w1.heap.size + 1, 0, none⟩ (.string ⟨#[]⟩) _ henv3 (hA3.cell 0) (hA3.frozen 0)).mono fun e w' ⟨he, hw⟩ => ⟨he, by
        rw [hw]
        exact (((((Below.refl _ _).alloc (by simp) _).alloc (by simp) _).alloc (by simp) _).alloc (by simp) _).setCell (p := ⟨w1.heap.size + 1, 0, none⟩) (Nat.le_refl _) _⟩
    have HR := Lib.hid hk
    clear hk hb3 henv3 hA3
    go_wp2_with fail
    refine ca.mono ?_
    rintro e w4 ⟨rfl, hb4⟩
    have hc4 := (hb4.cell (p := ⟨w.heap.size, 0, none⟩) (by show w.heap.size < w1.heap.size + 1; omega)).trans hc13
    have hf4 := (hb4.frozen (p := ⟨w.heap.size, 0, none⟩) (by show w.heap.size < w1.heap.size + 1; omega)).trans hf13
    have hbz4 := hbz3.trans (hb4.mono (by omega))
    clear ca hb4 hc3 hc13 hf13
    go_wp2_with fail
    have hcf := World.cell?_setCell_same w4 ⟨w.heap.size, 0, none⟩ (.slice none 0 0) hc4
    exact bodyPost_ret (v := .tuple #[.agg #[.slice none 0 0], .bool false]) (by simp [results, Tryz.results8, go_sem, hcf]) rfl ⟨_, by rw [HR.out], by rw [semRead_no HR.out]; exact World.ownsRow_nil _ _ _ _, hbz4.setCell (p := ⟨w.heap.size, 0, none⟩) (Nat.le_refl _) _⟩
end Go.Proofs.YtdjjagpecbflnaaGreatDoor
