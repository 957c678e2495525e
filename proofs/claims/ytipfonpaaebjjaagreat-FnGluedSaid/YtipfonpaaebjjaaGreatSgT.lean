/-
  TEXTS OF SEMIGROUPS: no program. What SemigroupText, ParseSemigroup and GapText answer. (Own work.)
-/
import Derived.Test.YtipfonpaaebjjaaGreatCh2
import Derived.Test.YtipfonpaaebjjaaGreatCh4L
namespace Go.Proofs.YtipfonpaaebjjaaGreat
open Go

theorem readAll_inv : ∀ (P : List (List UInt8)) (N : List Int), readAll P = some N → P = N.map Lib.itoa
  | [], N, h => by simp only [readAll] at h; cases h; rfl
  | p :: r, N, h => by
    cases hp : readOf p (-999999999999) 999999999999 with
    | none => simp only [readAll, hp] at h; cases h
    | some n =>
      simp only [readAll, hp] at h
      obtain ⟨M, hM, rfl⟩ := Option.map_eq_some_iff.1 h
      rw [List.map_cons, ← readAll_inv r M hM]
      have he : Lib.itoa n = p := by
        unfold readOf at hp
        split at hp
        · next hx => cases hp; exact hx.choose_spec.1
        · cases hp
      rw [he]
/-- A list that was read has the text. -/
theorem listText_readList {s : ByteArray} {L : List Int} (h : readList s = some L) : listText L = s := by
  unfold readList at h
  split at h
  · next hn => cases h; rw [hn]; rfl
  · have h1 := readAll_inv _ _ h
    have hne : L ≠ [] := by
      rintro rfl
      exact splitL_ne 44 s.data.toList h1
    rw [listText_cons hne, ← h1, splitL_join]

def ltB : ByteArray := ⟨#[60]⟩
def gtB : ByteArray := ⟨#[62]⟩
theorem ltB_size : ltB.size = 1 := rfl
theorem gtB_size : gtB.size = 1 := rfl
theorem noB_size : (⟨#[]⟩ : ByteArray).size = 0 := rfl
theorem midB_size (t : ByteArray) : (ltB ++ t ++ gtB).size = t.size + 2 := by rw [ByteArray.size_append, ByteArray.size_append, ltB_size, gtB_size]; omega
noncomputable def semText (G : List Int) : ByteArray := if isSgB G then ltB ++ listText G ++ gtB else ⟨#[]⟩
noncomputable def gapText (G : List Int) : ByteArray := if isSgB G then listText (gapsL G) else ⟨#[]⟩
theorem semText_yes {G : List Int} (h : isSgB G = true) : semText G = ltB ++ listText G ++ gtB := by unfold semText; rw [if_pos h]
theorem semText_no {G : List Int} (h : isSgB G = false) : semText G = ⟨#[]⟩ := by unfold semText; rw [h]; rfl
theorem gapText_yes {G : List Int} (h : isSgB G = true) : gapText G = listText (gapsL G) := by unfold gapText; rw [if_pos h]
theorem gapText_no {G : List Int} (h : isSgB G = false) : gapText G = ⟨#[]⟩ := by unfold gapText; rw [h]; rfl

theorem ba_ext {a b : ByteArray} (h : a.data.toList = b.data.toList) : a = b := by
  cases a with | mk x => cases b with | mk y => cases x; cases y; cases h; rfl
theorem ba_app (a b : ByteArray) : (a ++ b).data.toList = a.data.toList ++ b.data.toList := by simp
theorem ba_ext_mid (t : ByteArray) : (ltB ++ t ++ gtB).extract 1 ((ltB ++ t ++ gtB).size - 1) = t := by
  apply ba_ext
  have hs := midB_size t
  rw [hs]
  have hl : (ltB ++ t ++ gtB).data.toList = 60 :: (t.data.toList ++ [62]) := by rw [ba_app, ba_app]; rfl
  have hx : ∀ (b : ByteArray) (i j : Nat), (b.extract i j).data.toList = (b.data.toList.drop i).take (j - i) := by
    intro b i j; simp [List.extract]
  rw [hx, hl]
  simp

theorem sg_in64' {G : List Int} (h : isSgB G = true) : ∀ x ∈ G, -9223372036854775808 ≤ x ∧ x ≤ 9223372036854775807 := fun x hx => by
  have := (isSgB_iff.1 h).bounds x hx; omega
theorem semText_size (G : List Int) : (semText G).size ≤ 300 := by
  cases h : isSgB G
  · rw [semText_no h, noB_size]; omega
  · have h1 := listText_size G (sg_in64' h)
    have h2 := (isSgB_iff.1 h).len
    rw [semText_yes h, midB_size]
    omega

theorem gapsL_in64 (G : List Int) : ∀ x ∈ gapsL G, -9223372036854775808 ≤ x ∧ x ≤ 9223372036854775807 := by
  intro x hx
  unfold gapsL at hx
  split at hx
  · obtain ⟨a, ha, rfl⟩ := List.mem_map.1 hx
    have := (mem_upB.1 ha).1
    simp only [Int.ofNat_eq_natCast]
    omega
  · simp at hx

noncomputable def semO (s : ByteArray) : Option (List Int) :=
  if 2 ≤ s.size then (match readList (s.extract 1 (s.size - 1)) with
    | some L => if semText L = s then some L else none
    | none => none) else none
noncomputable def semRead (s : ByteArray) : List Int := (semO s).getD []
noncomputable def semOk (s : ByteArray) : Bool := (semO s).isSome

theorem sg_small {G : List Int} (h : isSgB G = true) : ∀ x ∈ G, -999999999999 ≤ x ∧ x ≤ 999999999999 := fun x hx => by
  have := (isSgB_iff.1 h).bounds x hx; omega
theorem semO_some {s : ByteArray} {L : List Int} (h : semO s = some L) : isSgB L = true ∧ semText L = s := by
  unfold semO at h
  split at h
  · next h2 =>
    split at h
    · next M hM =>
      split at h
      · next he =>
        cases h
        refine ⟨?_, he⟩
        cases hs : isSgB L
        · rw [semText_no hs] at he
          rw [← he, noB_size] at h2; omega
        · rfl
      · cases h
    · cases h
  · cases h
theorem semO_text {G : List Int} (h : isSgB G = true) : semO (semText G) = some G := by
  have hsz : 2 ≤ (semText G).size := by rw [semText_yes h, midB_size]; omega
  have hr : readList ((semText G).extract 1 ((semText G).size - 1)) = some G := by
    rw [semText_yes h, ba_ext_mid, readList_listText G (sg_small h)]
  unfold semO
  rw [if_pos hsz]
  simp only [hr, if_pos]
theorem semO_iff {s : ByteArray} {L : List Int} : semO s = some L ↔ isSgB L = true ∧ semText L = s :=
  ⟨semO_some, fun ⟨h, e⟩ => by rw [← e]; exact semO_text h⟩
theorem semOk_text (G : List Int) : semOk (semText G) = isSgB G := by
  unfold semOk
  cases h : isSgB G
  · rw [semText_no h]; unfold semO; rw [if_neg (by rw [noB_size]; omega)]; rfl
  · rw [semO_text h]; rfl
theorem semRead_text {G : List Int} (h : isSgB G = true) : semRead (semText G) = G := by unfold semRead; rw [semO_text h]; rfl
theorem semRead_no {s : ByteArray} (h : semOk s = false) : semRead s = [] := by
  unfold semOk at h; unfold semRead
  cases hs : semO s with
  | none => rfl
  | some L => rw [hs] at h; cases h
theorem text_semRead {s : ByteArray} (h : semOk s = true) : semText (semRead s) = s ∧ isSgB (semRead s) = true := by
  unfold semOk at h; unfold semRead
  cases hs : semO s with
  | none => rw [hs] at h; cases h
  | some L => have := semO_some hs; exact ⟨this.2, this.1⟩
theorem semRead_length_le (s : ByteArray) : (semRead s).length ≤ 12 := by
  cases h : semOk s
  · rw [semRead_no h]; simp
  · exact (isSgB_iff.1 (text_semRead h).2).len
/-- The way by the brackets: what a program may ask instead of the text. -/
theorem semO_way {s : ByteArray} (h2 : 2 ≤ s.size) : semO s = (match readList (s.extract 1 (s.size - 1)) with
    | some L => if isSgB L = true ∧ s.data.toList.head? = some 60 ∧ s.data.toList.getLast? = some 62 then some L else none
    | none => none) := by
  unfold semO
  rw [if_pos h2]
  cases hr : readList (s.extract 1 (s.size - 1)) with
  | none => rfl
  | some L =>
    simp only []
    have ht := listText_readList hr
    congr 1
    apply propext
    constructor
    · intro he
      have hs : isSgB L = true := by
        cases hs : isSgB L
        · rw [semText_no hs] at he
          rw [← he, noB_size] at h2; omega
        · rfl
      have hl : s.data.toList = 60 :: ((listText L).data.toList ++ [62]) := by rw [← he, semText_yes hs, ba_app, ba_app]; rfl
      refine ⟨hs, ?_, ?_⟩
      · rw [hl]; rfl
      · rw [hl, ← List.cons_append, List.getLast?_append]; rfl
    · rintro ⟨hs, ha, hb⟩
      rw [semText_yes hs, ht]
      apply ba_ext
      rw [ba_app, ba_app]
      have hx : (s.extract 1 (s.size - 1)).data.toList = (s.data.toList.drop 1).take (s.size - 1 - 1) := by simp [List.extract]
      have hsz : s.size = s.data.toList.length := by simp
      rw [hx, hsz]
      generalize s.data.toList = l at *
      cases l with
      | nil => cases ha
      | cons x r =>
        cases ha
        rw [hsz] at h2
        have hr1 : r ≠ [] := by rintro rfl; simp at h2
        rw [List.getLast?_cons_of_ne_nil hr1, List.getLast?_eq_some_iff] at hb
        obtain ⟨r', rfl⟩ := hb
        simp [ltB, gtB]
end Go.Proofs.YtipfonpaaebjjaaGreat
