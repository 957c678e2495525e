/-
  CONTRACTS of the reference's l1Read, ParseInt and ParseNumber: what 'readOf' says.
-/
import Derived.Test.YtjahmlaocgcjpaaGreatDoorParseM
import Derived.Test.YtjahmlaocgcjpaaGreatDoorFmt
import Derived.WalkKit
import Derived.WalkLawsBesides
import Derived.WalkSpells
import Derived.BigQuiet
import Derived.Deep.QuietTactic
import Derived.Lib.Strings
import Derived.Outline
namespace Go.Proofs.YtjahmlaocgcjpaaGreatDoor
open Go Go.RowKit

theorem byte_get (s : ByteArray) (k : Nat) (h : k < s.size) : s.data.toList[k]'(by simpa using h) = s[k] := by simp; rfl
theorem sg_true (m : Nat) : sg true m = -(m : Int) := rfl
theorem sg_false (m : Nat) : sg false m = (m : Int) := rfl
theorem decFrom_more {s : ByteArray} {k m : Nat} (h : k < s.size) (hd : Lib.decFrom 0 (s.data.toList.take k) = some m) (g0 : 48 ≤ (s[k].toNat : Int)) (g1 : (s[k].toNat : Int) ≤ 57) :
    Lib.decFrom 0 (s.data.toList.take (k + 1)) = some (m * 10 + (s[k].toNat - 48)) := by
  refine Lib.decFrom_take _ k 0 m s[k] _ hd ?_ ?_
  · rw [List.getElem?_eq_getElem (by simpa using h), byte_get s k h]
  · unfold Lib.digitVal; rw [if_pos (by omega)]

set_option maxRecDepth 100000 in
set_option maxHeartbeats 800000 in
theorem read_plain (s : ByteArray) (most : Nat) (hm : most + 1 ≤ 12) (hs : s.size ≤ maxLen) (hp : Parted s.data.toList false s.data.toList) (hsz : 1 ≤ s.size) (w : World) :
    Calls Tryz.prog 64 #[.string s, .int .i64 ((most + 1 : Nat) : Int)] w fun e w' => e = .returned (rdTuple (readOf s.data.toList (-(10 ^ (most + 1) - 1)) (10 ^ (most + 1) - 1))) ∧ Below w.heap.size w w' := by
  unfold maxLen at hs
  have hlt0 : 0 < s.size := by omega
  have hb0 : ((s[0].toNat : Int) == 45) = false := by
    rw [beq_eq_false_iff_ne]; intro e
    rcases hp with ⟨h, _⟩ | ⟨_, _, h45⟩
    · cases h
    · refine h45 ?_
      rw [List.head?_eq_getElem?, List.getElem?_eq_getElem (by simpa using hlt0), byte_get s 0 hlt0]
      congr 1; exact UInt8.toNat_inj.1 (by simp; omega)
  by_cases hl : most + 1 < s.size
  · have HN := Lib.hid (parted_long hp (by simpa using hl))
    go_enter Tryz.func64, Tryz.ntmps64
    go_wp2_with fail
    go_ret2
    exact ⟨by rw [HN.out]; rfl, Below.refl _ _⟩
  · have hl' : s.size ≤ most + 1 := by omega
    go_enter Tryz.func64, Tryz.ntmps64
    go_wp2_with fail
    go_loopw [8, 9] (fun n i wr => ∃ (k m : Nat), k ≤ s.size ∧ i = .int .i64 (k : Int) ∧ n = .int .i64 (m : Int) ∧ Lib.decFrom 0 (s.data.toList.take k) = some m ∧ Below w.heap.size w wr) (fun _ i _ => s.size - (intOf i).toNat)
    case atStart => exact ⟨0, 0, Nat.zero_le _, rfl, rfl, by simp [Lib.decFrom], Below.refl _ _⟩
    case round =>
      obtain ⟨k, m, hk, rfl, rfl, hd, hbel⟩ := hrel
      have hmb : m < 1000000000000 := decFrom_pow (k := 12) hd (by simp; omega)
      by_cases hlt : k < s.size
      · have hbyte := byte_get s k hlt
        have hmb2 : m < 100000000000 := decFrom_pow (k := 11) hd (by simp; omega)
        have hx : (s[k].toNat : Int) ≤ 255 := by have := s[k].toNat_lt; omega
        by_cases hdg : 48 ≤ (s[k].toNat : Int) ∧ (s[k].toNat : Int) ≤ 57
        · obtain ⟨g0, g1⟩ := hdg
          have HD := Lib.hid (decFrom_more hlt hd g0 g1)
          clear hd
          go_wp2
          go_roundw
          case rel => exact ⟨k + 1, m * 10 + (s[k].toNat - 48), by omega, by go_num, by go_num, HD.out, hbel⟩
          case measure => simp [intOf]; omega
        · have HN := Lib.hid (parted_digit (lo := -(10 ^ (most + 1) - 1)) (hi := 10 ^ (most + 1) - 1) hp k (by simpa using hlt) (by rw [hbyte]; omega))
          clear hd
          by_cases g0 : (s[k].toNat : Int) < 48
          · clear hdg
            go_wp2
            go_ret2
            exact ⟨by rw [HN.out]; rfl, hbel⟩
          · have g1 : 57 < (s[k].toNat : Int) := by omega
            clear hdg
            go_wp2
            go_ret2
            exact ⟨by rw [HN.out]; rfl, hbel⟩
      · obtain rfl : k = s.size := by omega
        have hd2 : Lib.decFrom 0 s.data.toList = some m := by rw [← hd]; congr 1; exact (List.take_of_length_le (by simp)).symm
        have HD := Lib.hid hd2
        have HM := Lib.hid (decFrom_pow (k := most + 1) hd2 (by simp; omega))
        clear hd hd2
        go_wp2_with fail
        refine (spec_FormatInt _ (by omega) (by omega) _).mono ?_
        rintro e w1 ⟨rfl, hb1⟩
        have hbel1 := hbel.trans (hb1.mono hbel.size)
        by_cases he : Lib.itoa (sg false m) = s.data.toList
        · have HF := Lib.hid (parted_yes HM.out he)
          have hq : (Lib.itoa (sg false m) == s.toList) = true := by
            rw [beq_iff_eq, ByteArray.toList_eq]; exact he
          clear he
          simp only [sg_false] at hq HF
          go_wp2_with fail
          go_ret2
          exact ⟨by rw [HF.out]; rfl, hbel1⟩
        · have HF := Lib.hid (parted_not (lo := -(10 ^ (most + 1) - 1)) (hi := 10 ^ (most + 1) - 1) hp HD.out he)
          have hq : (Lib.itoa (sg false m) == s.toList) = false := by
            rw [beq_eq_false_iff_ne, ByteArray.toList_eq]; exact he
          clear he
          simp only [sg_false] at hq
          go_wp2_with fail
          go_ret2
          exact ⟨by rw [HF.out]; rfl, hbel1⟩

set_option maxRecDepth 100000 in
set_option maxHeartbeats 800000 in
theorem read_minus (s : ByteArray) (most : Nat) (hm : most + 1 ≤ 12) (hs : s.size ≤ maxLen) (hp0 : Parted s.data.toList true (s.extract 1 s.size).data.toList) (hsz : 1 ≤ s.size) (w : World) :
    Calls Tryz.prog 64 #[.string s, .int .i64 ((most + 1 : Nat) : Int)] w fun e w' => e = .returned (rdTuple (readOf s.data.toList (-(10 ^ (most + 1) - 1)) (10 ^ (most + 1) - 1))) ∧ Below w.heap.size w w' := by
  unfold maxLen at hs
  have hlt0 : 0 < s.size := by omega
  have hb0 : ((s[0].toNat : Int) == 45) = true := by
    rw [beq_iff_eq]
    rcases hp0 with ⟨_, h⟩ | ⟨h, _⟩
    · have e : s.data.toList[0]? = some 45 := by rw [h]; rfl
      rw [List.getElem?_eq_getElem (by simpa using hlt0), byte_get s 0 hlt0] at e
      rw [Option.some.inj e]; rfl
    · cases h
  have hsz2 : (s.extract 1 s.size).size = s.size - 1 := by simp
  by_cases h1 : s.size = 1
  · have HN := Lib.hid (parted_short (lo := -(10 ^ (most + 1) - 1)) (hi := 10 ^ (most + 1) - 1) hp0 (by simp; omega))
    have hlen : (s.size : Int) - 1 < 1 := by omega
    have hq := Lib.hid h1
    clear hp0 h1 hsz2
    go_enter Tryz.func64, Tryz.ntmps64
    go_wp2_with fail
    all_goals go_ret2
    all_goals exact ⟨by rw [HN.out]; rfl, Below.refl _ _⟩
  by_cases hl : most + 1 < s.size - 1
  · have HN := Lib.hid (parted_long hp0 (by simpa using hl))
    have hlen : (most : Int) + 1 < (s.size : Int) - 1 := by omega
    clear hp0 hsz2
    go_enter Tryz.func64, Tryz.ntmps64
    go_wp2_with fail
    all_goals go_ret2
    all_goals exact ⟨by rw [HN.out]; rfl, Below.refl _ _⟩
  · have hl' : (s.extract 1 s.size).size ≤ most + 1 := by omega
    have hl2 : ¬ (s.size : Int) - 1 < 1 := by omega
    have hl3 : ¬ (most : Int) + 1 < (s.size : Int) - 1 := by omega
    have HP := Lib.hid hp0
    have HL := Lib.hid hl'
    clear hp0 hl' hl hsz2
    go_enter Tryz.func64, Tryz.ntmps64
    go_wp2_with fail
    generalize s.extract 1 s.size = t at *
    have hp := HP.out
    have hl' := HL.out
    clear HP HL
    go_loopw [8, 9] (fun n i wr => ∃ (k m : Nat), k ≤ t.size ∧ i = .int .i64 (k : Int) ∧ n = .int .i64 (m : Int) ∧ Lib.decFrom 0 (t.data.toList.take k) = some m ∧ Below w.heap.size w wr) (fun _ i _ => t.size - (intOf i).toNat)
    case atStart => exact ⟨0, 0, Nat.zero_le _, rfl, rfl, by simp [Lib.decFrom], Below.refl _ _⟩
    case round =>
      obtain ⟨k, m, hk, rfl, rfl, hd, hbel⟩ := hrel
      have hmb : m < 1000000000000 := decFrom_pow (k := 12) hd (by simp; omega)
      by_cases hlt : k < t.size
      · have hbyte := byte_get t k hlt
        have hmb2 : m < 100000000000 := decFrom_pow (k := 11) hd (by simp; omega)
        have hx : (t[k].toNat : Int) ≤ 255 := by have := t[k].toNat_lt; omega
        by_cases hdg : 48 ≤ (t[k].toNat : Int) ∧ (t[k].toNat : Int) ≤ 57
        · obtain ⟨g0, g1⟩ := hdg
          have HD := Lib.hid (decFrom_more hlt hd g0 g1)
          clear hd
          go_wp2
          go_roundw
          case rel => exact ⟨k + 1, m * 10 + (t[k].toNat - 48), by omega, by go_num, by go_num, HD.out, hbel⟩
          case measure => simp [intOf]; omega
        · have HN := Lib.hid (parted_digit (lo := -(10 ^ (most + 1) - 1)) (hi := 10 ^ (most + 1) - 1) hp k (by simpa using hlt) (by rw [hbyte]; omega))
          clear hd
          by_cases g0 : (t[k].toNat : Int) < 48
          · clear hdg
            go_wp2
            go_ret2
            exact ⟨by rw [HN.out]; rfl, hbel⟩
          · have g1 : 57 < (t[k].toNat : Int) := by omega
            clear hdg
            go_wp2
            go_ret2
            exact ⟨by rw [HN.out]; rfl, hbel⟩
      · obtain rfl : k = t.size := by omega
        have hd2 : Lib.decFrom 0 t.data.toList = some m := by rw [← hd]; congr 1; exact (List.take_of_length_le (by simp)).symm
        have HD := Lib.hid hd2
        have HM := Lib.hid (decFrom_pow (k := most + 1) hd2 (by simp; omega))
        clear hd hd2
        go_wp2_with fail
        refine (spec_FormatInt _ (by omega) (by omega) _).mono ?_
        rintro e w1 ⟨rfl, hb1⟩
        have hbel1 := hbel.trans (hb1.mono hbel.size)
        by_cases he : Lib.itoa (sg true m) = s.data.toList
        · have HF := Lib.hid (parted_yes HM.out he)
          have hq : (Lib.itoa (sg true m) == s.toList) = true := by
            rw [beq_iff_eq, ByteArray.toList_eq]; exact he
          clear he
          simp only [sg_true] at hq HF
          go_wp2_with fail
          go_ret2
          exact ⟨by rw [HF.out]; rfl, hbel1⟩
        · have HF := Lib.hid (parted_not (lo := -(10 ^ (most + 1) - 1)) (hi := 10 ^ (most + 1) - 1) hp HD.out he)
          have hq : (Lib.itoa (sg true m) == s.toList) = false := by
            rw [beq_eq_false_iff_ne, ByteArray.toList_eq]; exact he
          clear he
          simp only [sg_true] at hq
          go_wp2_with fail
          go_ret2
          exact ⟨by rw [HF.out]; rfl, hbel1⟩

set_option maxRecDepth 100000 in
theorem read_empty (s : ByteArray) (most : Nat) (hsz : s.size = 0) (w : World) :
    Calls Tryz.prog 64 #[.string s, .int .i64 ((most + 1 : Nat) : Int)] w fun e w' => e = .returned (rdTuple (readOf s.data.toList (-(10 ^ (most + 1) - 1)) (10 ^ (most + 1) - 1))) ∧ Below w.heap.size w w' := by
  have hnil : s.data.toList = [] := List.eq_nil_of_length_eq_zero (by simpa using hsz)
  have HN := Lib.hid (parted_short (l := s.data.toList) (r := s.data.toList) (neg := false) (lo := -(10 ^ (most + 1) - 1)) (hi := 10 ^ (most + 1) - 1) (.inr ⟨rfl, rfl, by rw [hnil]; simp⟩) (by rw [hnil]; simp))
  clear hnil
  go_enter Tryz.func64, Tryz.ntmps64
  go_wp2_with fail
  go_ret2
  exact ⟨by rw [HN.out]; rfl, Below.refl _ _⟩

theorem head_drop : ∀ (l : List UInt8) (c : UInt8), l[0]? = some c → l = c :: l.drop 1
  | [], _, h => by simp at h
  | a :: t, c, h => by simp at h; subst h; simp

/-- THE REFERENCE's l1Read, AT EVERY STRING. -/
theorem spec_l1Read (s : ByteArray) (most : Nat) (hm : most + 1 ≤ 12) (hs : s.size ≤ maxLen) (w : World) :
    Calls Tryz.prog 64 #[.string s, .int .i64 ((most + 1 : Nat) : Int)] w fun e w' => e = .returned (rdTuple (readOf s.data.toList (-(10 ^ (most + 1) - 1)) (10 ^ (most + 1) - 1))) ∧ Below w.heap.size w w' := by
  by_cases h0 : s.size = 0
  · exact read_empty s most h0 w
  · have h1 : 0 < s.size := by omega
    by_cases h45 : s[0] = 45
    · refine read_minus s most hm hs (.inl ⟨rfl, ?_⟩) (by omega) w
      rw [Lib.extract_data, List.take_of_length_le (by simp)]
      refine head_drop _ _ ?_
      rw [List.getElem?_eq_getElem (by simpa using h1), byte_get s 0 h1, h45]
    · refine read_plain s most hm hs (.inr ⟨rfl, rfl, ?_⟩) (by omega) w
      rw [List.head?_eq_getElem?, List.getElem?_eq_getElem (by simpa using h1), byte_get s 0 h1]
      intro e; exact h45 (Option.some.inj e)

theorem spec_ParseInt (s : ByteArray) (hs : s.size ≤ maxLen) (w : World) :
    Calls Tryz.prog 45 #[.string s] w fun e w' => e = .returned (rdTuple (readOf s.data.toList (-999999999999) 999999999999)) ∧ Below w.heap.size w w' := by
  have c := spec_l1Read s 11 (by omega) hs w
  have e1 : (-(10 ^ (11 + 1) - 1) : Int) = -999999999999 := by decide
  have e2 : ((10 ^ (11 + 1) - 1) : Int) = 999999999999 := by decide
  rw [e1, e2] at c
  clear e1 e2
  generalize readOf s.data.toList (-999999999999) 999999999999 = r at *
  go_enter Tryz.func45, Tryz.ntmps45
  go_wp2_with fail
  refine c.mono ?_
  rintro e w1 ⟨rfl, hb⟩
  unfold rdTuple
  go_wp2_with fail
  go_ret2
  exact ⟨rfl, hb⟩

theorem readOf_from0 (l : List UInt8) (hi : Int) (h : 0 ≤ hi) : readOf l 0 hi = (readOf l (-hi) hi).bind fun n => if n < 0 then none else some n := by
  by_cases hx : ∃ n, Lib.itoa n = l ∧ -hi ≤ n ∧ n ≤ hi
  · obtain ⟨n, h1, h2, h3⟩ := hx
    rw [readOf_some h1 h2 h3, Option.bind_some]
    by_cases hn : n < 0
    · rw [if_pos hn]
      refine readOf_none fun m hm h0 _ => ?_
      have := itoa_inj (hm.trans h1.symm)
      omega
    · rw [if_neg hn]; exact readOf_some h1 (by omega) h3
  · rw [readOf_none (lo := -hi) fun n a b c => hx ⟨n, a, b, c⟩]
    exact readOf_none fun n a b c => hx ⟨n, a, by omega, c⟩

end Go.Proofs.YtjahmlaocgcjpaaGreatDoor
