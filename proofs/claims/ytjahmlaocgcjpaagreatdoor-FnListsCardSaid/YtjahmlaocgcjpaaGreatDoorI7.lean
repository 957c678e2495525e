/-
  CONTRACT of the program's ParseList.
-/
import Derived.Test.YtjahmlaocgcjpaaGreatDoorI6
namespace Go.Proofs.YtjahmlaocgcjpaaGreatDoor
open Go Go.RowKit

/-- A call read a list, or did not; the list may be nil where it is empty. -/
def ReadPost (r : Option (List Int)) (w : World) (e : Ending) (w' : World) : Prop :=
  ∃ v, e = .returned (.tuple #[v, .bool r.isSome]) ∧ w'.ownsRow w.heap.size 3 1 v (r.getD []).length ((r.getD []).map (Value.int .i64)) ∧ Below w.heap.size w w'

theorem impl_ParseIntE (s : ByteArray) (hs : s.size ≤ 1048576) (w : World) (hv : EnvParse w) :
    Calls Tryz.prog 43 #[.string s] w fun e w' => e = .returned (rdTuple (readOf s.data.toList (-999999999999) 999999999999)) ∧ Below w.heap.size w w' := by
  obtain ⟨t0, p0, h0⟩ := hv.syn
  obtain ⟨t1, p1, h1⟩ := hv.rng
  exact impl_ParseInt s (by omega) w hv.fmt t0 t1 p0 p1 h0 h1

set_option maxRecDepth 100000 in
set_option maxHeartbeats 400000 in
theorem impl_ParseList (s : ByteArray) (w : World) (hs : s.size ≤ 1048576) (hv : EnvParse w) :
    Calls Tryz.prog 14 #[.string s] w (ReadPost (readList s) w) := by
  obtain ⟨i0, hi, hz0, hz1, hz2⟩ := info_parts infoIntL
  by_cases hq : (s.toList == [110, 111, 110, 101]) = true
  · have HR : Hid (readList s = some []) := Lib.hid (by rw [noneB_list (s := s) (by simpa using hq)]; exact readList_none)
    clear hs hv
    go_enter Tryz.func14, Tryz.ntmps14
    go_wp2_with fail
    go_ret2
    rw [HR.out]
    exact ⟨_, rfl, World.ownsRow_nil _ _ _ _, Below.refl _ _⟩
  · have hq2 : (s.toList == [110, 111, 110, 101]) = false := by simpa using hq
    have cs := impl_SplitByte s 44 w hv.mx hs
    have e44 : ((44 : UInt8).toNat : Int) = 44 := rfl
    rw [e44] at cs
    have HV := Lib.hid hv
    clear e44 hv
    go_enter Tryz.func14, Tryz.ntmps14
    go_wp2_with fail
    refine cs.mono ?_
    rintro e w1 ⟨M, v, hM, rfl, hp, hb1⟩
    clear cs
    obtain ⟨g, cp, rfl, hg0, hsl, hMl, hgl, -⟩ := parts_open hM hp
    have HM := Lib.hid hM
    clear hM hp
    have HR : Hid (readList s = readAll (M.map (·.data.toList))) := Lib.hid (by
      unfold readList
      rw [if_neg, HM.out]
      intro h
      apply hq
      rw [h, ByteArray.toList_eq]
      rfl)
    have HS : Hid (∀ m ∈ M, m.size ≤ s.size) := Lib.hid (by
      intro m hm
      have h1 : m.data.toList ∈ splitL 44 s.data.toList := by rw [← HM.out]; exact List.mem_map_of_mem hm
      have h2 := len_le_lens _ _ h1
      have h3 := splitL_lens 44 s.data.toList
      have e1 : m.data.toList.length = m.size := by simp
      have e2 : s.data.toList.length = s.size := by simp
      omega)
    clear hq HM
    go_wp2_with fail
    go_loopw [4, 14] (fun v i wr => ∃ (k : Nat) (N : List Int), k ≤ M.length ∧ i = .int .i64 (k : Int) ∧ N.length = k ∧ readAll ((M.take k).map (·.data.toList)) = some N ∧
      wr.ownsRow w1.heap.size 3 1 v N.length (N.map (Value.int .i64)) ∧ Below w1.heap.size w1 wr) (fun _ i _ => M.length - (intOf i).toNat)
    case atStart => exact ⟨0, [], Nat.zero_le _, rfl, rfl, rfl, World.ownsRow_nil _ _ _ _, Below.refl _ _⟩
    case round =>
      obtain ⟨k, N, hk, rfl, hNk0, hrd, hown, hbel⟩ := hrel
      have hNk := Lib.hid hNk0
      have hNb : N.length ≤ M.length := by omega
      clear hNk0
      have HD := Lib.hid hrd
      have hsz := hbel.size
      clear hrd
      by_cases hlt : k < M.length
      · have hsl2 := hsl.below hbel
        obtain ⟨b, off, hbo, hbs, hc⟩ := hsl2.open (by intro h; rw [List.map_eq_nil_iff] at h; subst h; simp at hlt)
        injection hbo with hbo
        injection hbo with hb1' hb2'
        subst hb1' hb2'
        have hcell : wr.cell? ⟨g, k, none⟩ = some (.string M[k]) := by have := hc k (.string M[k]) (by simp [hlt]); simpa using this
        have hms := HS.out M[k] (List.getElem_mem hlt)
        have HT : Hid ((M.take (k + 1)).map (·.data.toList) = (M.take k).map (·.data.toList) ++ [M[k].data.toList]) := Lib.hid (by rw [List.take_add_one, List.getElem?_eq_getElem hlt, List.map_append]; rfl)
        have HA : Hid (M.map (·.data.toList) = (M.take k).map (·.data.toList) ++ M[k].data.toList :: (M.drop (k + 1)).map (·.data.toList)) := Lib.hid (by
          conv => lhs; rw [← List.take_append_drop k M, List.drop_eq_getElem_cons hlt]
          rw [List.map_append]; rfl)
        have cp := impl_ParseIntE M[k] (by omega) wr (HV.out.below (hb1.trans (hbel.mono hb1.size)))
        clear hc hsl hsl2
        cases hro : readOf M[k].data.toList (-999999999999) 999999999999 with
        | none =>
          have HB : Hid (readList s = none) := Lib.hid (by rw [HR.out, HA.out]; exact readAll_bad _ _ _ _ HD.out hro)
          rw [hro] at cp
          clear hro HA HT
          generalize M[k] = x at *
          go_wp2_with fail
          refine cp.mono ?_
          unfold rdTuple
          rintro e w2 ⟨rfl, hb2⟩
          have hbel2 := hbel.trans (hb2.mono hsz)
          clear cp hcell hown hbel hb2
          go_wp2_with fail
          go_ret2
          rw [HB.out]
          exact ⟨_, rfl, World.ownsRow_nil _ _ _ _, hb1.trans (hbel2.mono hb1.size)⟩
        | some n =>
          have HN := Lib.hid (readAll_more _ _ _ _ HD.out hro)
          rw [hro] at cp
          clear hro HA
          generalize M[k] = x at *
          go_wp2_with fail
          refine cp.mono ?_
          unfold rdTuple
          rintro e w2 ⟨rfl, hb2⟩
          have hbel2 := hbel.trans (hb2.mono hsz)
          have hown2 := row_kept hown fun j hj => hb2.block j (hown.lt j hj).2
          have hsz2 := hbel2.size
          clear cp hcell hown hbel hb2
          go_wp2_with (at_builtin; refine wpList_append_own _ rfl _ _ 27 rfl w1.heap.size 3 i0 (Value.int .i64 0) 1 8 Tryz.underlying27 hi hz0 hz1 hz2 rfl (by decide) _ _ _ rfl (hown2.alloc _) ⟨_, 0, none⟩ 1 1 [.int .i64 n] rfl rfl (World.news_of_block (cs := #[.int .i64 n]) (t := 3) (fr := (0, 0)) (heap_alloc_new _ _)) (by simp [Value.oneCell']) (by unfold maxLen; omega) (by omega) (by simp; omega) ?_; intro v3 w3 hown3 hgr3 _)
          have hb3 := (hbel2.alloc hsz2 _).grown hgr3 (by simp; omega) (fun j hj => (hown2.lt j hj).1)
          have HO := Lib.hid hown3
          clear hown2 hown3 hgr3
          go_wp2_with fail
          go_roundw
          case rel => exact ⟨k + 1, N ++ [n], by omega, by go_num, by have := hNk.out; simp; omega, by rw [HT.out]; exact HN.out, by have := HO.out; simpa using this, hb3⟩
          case measure => simp [intOf]; omega
      · obtain rfl : k = M.length := by omega
        have HE : Hid (readList s = some N) := Lib.hid (by rw [HR.out, ← HD.out, List.take_of_length_le (Nat.le_refl _)])
        have HO := Lib.hid hown
        have hsz1 := hb1.size
        clear hsl hown
        go_wp2_with fail
        go_ret2
        rw [HE.out]
        exact ⟨_, rfl, ownsBase HO.out hsz1, hb1.trans (hbel.mono hb1.size)⟩
end Go.Proofs.YtjahmlaocgcjpaaGreatDoor
