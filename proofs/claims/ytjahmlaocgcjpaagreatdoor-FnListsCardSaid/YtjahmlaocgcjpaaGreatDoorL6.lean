/-
  CONTRACTS of the reference's ListText and ParseList.
-/
import Derived.Test.YtjahmlaocgcjpaaGreatDoorL5
import Derived.Test.YtjahmlaocgcjpaaGreatDoorFmt
import Derived.Test.YtjahmlaocgcjpaaGreatDoorRead
import Derived.Test.YtjahmlaocgcjpaaGreatDoorJoinS
import Derived.Test.YtjahmlaocgcjpaaGreatDoorSplit
import Derived.WalkSpells
namespace Go.Proofs.YtjahmlaocgcjpaaGreatDoor
open Go Go.RowKit

def numeral (n : Int) : ByteArray := ⟨(Lib.itoa n).toArray⟩
def noneB : ByteArray := ⟨#[110, 111, 110, 101]⟩
/-- The text of a list. -/
def listText (L : List Int) : ByteArray := if L = [] then noneB else ⟨(Lib.join (L.map Lib.itoa) [44]).toArray⟩
theorem listText_cons {L : List Int} (h : L ≠ []) : listText L = ⟨(Lib.join (L.map Lib.itoa) [44]).toArray⟩ := by unfold listText; rw [if_neg h]

theorem infoStrL : (Tryz.prog.info? 9).map (fun i => (i.zero, i.size, i.bytes)) = some (some (Value.string ByteArray.empty), 1, 16) := by kernel_rfl

theorem int_bounds_of (L : List Int) (h : ∀ x ∈ L, -9223372036854775808 ≤ x ∧ x ≤ 9223372036854775807) (k : Nat) (hk : k < L.length) : -9223372036854775808 ≤ L[k] ∧ L[k] ≤ 9223372036854775807 := h _ (List.getElem_mem hk)

set_option maxRecDepth 100000 in
set_option maxHeartbeats 800000 in
theorem spec_ListText (L : List Int) (a : Option Addr) (cap : Nat) (w : World) (hr : SlV w a (L.map (Value.int .i64))) (hL : L.length ≤ 1048576) (hI : ∀ x ∈ L, -9223372036854775808 ≤ x ∧ x ≤ 9223372036854775807)
    (hz : sizes (L.map numeral) ≤ 1099511627776) :
    Calls Tryz.prog 31 #[.slice a L.length cap] w fun e w' => e = .returned (.string (listText L)) ∧ Below w.heap.size w w' := by
  obtain ⟨i0, hi, hz0, hz1, hz2⟩ := info_parts infoStrL
  by_cases h0 : L = []
  · subst h0
    go_enter Tryz.func31, Tryz.ntmps31
    go_wp2_with fail
    go_ret
    exact ⟨by simp [listText, noneB], Below.refl _ _⟩
  · have HT := Lib.hid (listText_cons h0)
    have hpos : 0 < L.length := List.length_pos_iff.2 h0
    have hne : ((L.length : Int) == 0) = false := by rw [beq_eq_false_iff_ne]; omega
    clear h0
    go_enter Tryz.func31, Tryz.ntmps31
    go_wp2_with fail
    have hown0 : (w.alloc (.cells #[] 9)).ownsRow w.heap.size 9 1 (.slice (some ⟨w.heap.size, 0, none⟩) 0 0) 0 [] := World.ownsRow_lit w #[] 0 (Nat.le_refl _) (by simp) rfl
    have hbel0 : Below w.heap.size w (w.alloc (.cells #[] 9)) := (Below.refl _ _).alloc (Nat.le_refl _) _
    go_loopw [3, 4] (fun v i wr => ∃ k : Nat, k ≤ L.length ∧ i = .int .i64 (k : Int) ∧
        wr.ownsRow w.heap.size 9 1 v ((L.take k).map numeral).length (((L.take k).map numeral).map Value.string) ∧ Below w.heap.size w wr) (fun _ i _ => L.length - (intOf i).toNat)
    case atStart => exact ⟨0, Nat.zero_le _, rfl, hown0, hbel0⟩
    case round =>
      clear hown0 hbel0
      obtain ⟨k, hk, rfl, hown, hbel⟩ := hrel
      have hsz := hbel.size
      by_cases hlt : k < L.length
      · obtain ⟨b, off, rfl, hbs, hc⟩ := hr.open (by intro h; rw [List.map_eq_nil_iff] at h; subst h; simp at hlt)
        have hcell : wr.cell? ⟨b, off + k, none⟩ = some (.int .i64 L[k]) := by rw [hbel.cell (p := ⟨b, off + k, none⟩) hbs]; exact hc k _ (by simp [hlt])
        have HN : Hid ((L.take (k + 1)).map numeral = (L.take k).map numeral ++ [numeral L[k]]) := Lib.hid (by rw [List.take_add_one, List.getElem?_eq_getElem hlt, List.map_append]; rfl)
        have hml : ((L.take k).map numeral).length ≤ k := by simp; omega
        obtain ⟨x0, x1⟩ := int_bounds_of L hI k hlt
        have cf := fun w => spec_FormatInt L[k] x0 x1 w
        clear hc hr hI
        generalize L[k] = x at *
        generalize (L.take k).map numeral = M at *
        go_wp2_with fail
        refine (cf _).mono ?_
        rintro e w1 ⟨rfl, hb1⟩
        have hown1 := owns_below hown hb1
        have hbel1 := hbel.trans (hb1.mono hsz)
        have hsz1 := hbel1.size
        go_wp2_with (at_builtin; refine wpList_append_own _ rfl (.tmp 15) (.tmp 21) 52 rfl w.heap.size 9 i0 (Value.string ByteArray.empty) 1 16 Tryz.underlying52 hi hz0 hz1 hz2 rfl (by decide) _ _ _ rfl (hown1.alloc _) ⟨_, 0, none⟩ 1 1 [.string (numeral x)] rfl rfl (World.news_of_block (cs := #[.string (numeral x)]) (t := 9) (fr := (0, 0)) (heap_alloc_new _ _)) (by simp [Value.oneCell']) (by unfold maxLen; omega) (by omega) (by simp; omega) ?_; intro v2 w2 hown2 hgrow2 _)
        have hb2 := (hbel1.alloc hsz1 _).grown hgrow2 (by simp; omega) (fun j hj => (hown1.lt j hj).1)
        have HO := Lib.hid hown2
        clear hown hown1 hown2 hgrow2
        go_wp2_with fail
        go_roundw
        case rel => exact ⟨k + 1, by omega, by go_num, by rw [HN.out]; have := HO.out; simpa using this, hb2⟩
        case measure => simp [intOf]; omega
      · obtain rfl : k = L.length := by omega
        have HJ : Hid (Lib.join ((L.map numeral).map (·.data.toList)) (⟨#[44]⟩ : ByteArray).data.toList = Lib.join (L.map Lib.itoa) [44]) := Lib.hid (by
          congr 1
          rw [List.map_map]
          exact List.map_congr_left fun x _ => by simp [numeral])
        rw [List.take_of_length_le (Nat.le_refl _)] at hown
        obtain ⟨a2, c2, rfl, hl2, -, hs2, -⟩ := SlV.of_owns hown
        have cj := spec_JoinW (L.map numeral) ⟨#[44]⟩ a2 c2 wr hs2 (by simp; omega) hz (by decide)
        rw [HJ.out, ← HT.out] at cj
        clear hr hown hs2
        rw [List.length_map] at cj
        go_wp2_with fail
        refine cj.mono ?_
        rintro e w1 ⟨rfl, hb1⟩
        go_wp2_with fail
        go_ret
        exact ⟨rfl, hbel.trans (hb1.mono hbel.size)⟩

/-- What ParseList reads: every part a numeral within bounds. -/
noncomputable def readAll : List (List UInt8) → Option (List Int)
  | [] => some []
  | p :: r => match readOf p (-999999999999) 999999999999 with
    | none => none
    | some n => (readAll r).map (n :: ·)
theorem readAll_append (P Q : List (List UInt8)) (N : List Int) (h : readAll P = some N) : readAll (P ++ Q) = (readAll Q).map (N ++ ·) := by
  induction P generalizing N with
  | nil => simp only [readAll] at h; cases h; simp
  | cons p r ih =>
    cases hp : readOf p (-999999999999) 999999999999 with
    | none => simp only [readAll, hp] at h; cases h
    | some n =>
      simp only [readAll, hp, List.cons_append] at h ⊢
      obtain ⟨M, hM, rfl⟩ := Option.map_eq_some_iff.1 h
      rw [ih M hM]
      cases readAll Q <;> simp
/-- What ParseList says. -/
noncomputable def readList (s : ByteArray) : Option (List Int) := if s = noneB then some [] else readAll (splitL 44 s.data.toList)

def ParsePost (r : Option (List Int)) (w : World) (e : Ending) (w' : World) : Prop :=
  ∃ g cap, e = .returned (.tuple #[.slice (some ⟨g, 0, none⟩) (r.getD []).length cap, .bool r.isSome]) ∧ w'.ownsRow w.heap.size 3 1 (.slice (some ⟨g, 0, none⟩) (r.getD []).length cap) (r.getD []).length ((r.getD []).map (Value.int .i64)) ∧ Below w.heap.size w w'

end Go.Proofs.YtjahmlaocgcjpaaGreatDoor
