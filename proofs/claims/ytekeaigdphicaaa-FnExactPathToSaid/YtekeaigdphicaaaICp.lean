/-
  CONTRACT of the program's copyOf. (Own work.)
-/
import Derived.Test.YtekeaigdphicaaaCh4I
import Derived.Test.YtekeaigdphicaaaL24
import Derived.Test.YtekeaigdphicaaaSh
import Derived.BigRegion
import Derived.OwnWalk
namespace Go.Proofs.Ytekeaigdphicaaa
open Go Go.RowKit
attribute [local go_sem] Oper.semAt_some

theorem clone_anyG (L : List Int) (a : Option Addr) (c : Nat) (w : World) (hr : SlV w a (L.map (Value.int .i64))) (hb : L.length ≤ 1048576) :
    Calls Try.prog 45 #[.slice a L.length c] w fun e w' => ∃ v, e = .returned v ∧ w'.ownsRow w.heap.size 3 1 v L.length (L.map (Value.int .i64)) ∧ Below w.heap.size w w' := by
  by_cases hn : L = []
  · subst hn
    cases a with
    | none =>
      refine (Try.slices_Clone_int_nil 0 c w).mono ?_
      rintro e w' ⟨rfl, rfl⟩
      exact ⟨_, rfl, World.ownsRow_nil _ _ _ _, Below.refl _ _⟩
    | some ad =>
      refine (Try.slices_Clone_int_zero ad c w).mono ?_
      rintro e w' ⟨v, rfl, ho, -, hb⟩
      exact ⟨v, rfl, ho, hb⟩
  · obtain ⟨b, off, rfl, hbs, hc⟩ := hr.open (by intro h; rw [List.map_eq_nil_iff] at h; exact hn h)
    refine (Try.slices_Clone_int b off L.length c L w (Nat.le_refl _) (by omega) (fun j hj => ?_)).mono ?_
    · rw [List.getD_eq_getElem?_getD, List.getElem?_eq_getElem hj]
      exact hc j _ (by simp [hj])
    · rintro e w' ⟨v, rfl, ho, -, hb⟩
      rw [List.take_length] at ho
      exact ⟨v, rfl, ho, hb⟩
set_option maxRecDepth 100000 in
set_option maxHeartbeats 1600000 in
theorem impl_copyOf (L : List Int) (a : Option Addr) (c : Nat) (w : World) (hr : SlV w a (L.map (Value.int .i64))) (hb : L.length ≤ 1048576) :
    Calls Try.prog 30 #[.agg #[.slice a L.length c]] w fun e w' => ∃ a' c', e = .returned (.agg #[.slice a' L.length c']) ∧ w'.ownsRow w.heap.size 3 1 (.slice a' L.length c') L.length (L.map (Value.int .i64)) ∧ Below w.heap.size w w' := by
  obtain ⟨dS, hdS, hrS⟩ := undSg
  obtain ⟨U, hU⟩ : ∃ U, U = w.alloc (.cells #[.slice a L.length c] 42) := ⟨_, rfl⟩
  obtain ⟨V, hV⟩ : ∃ V, V = U.alloc (.cells [Value.slice none 0 0].toArray 42) := ⟨_, rfl⟩
  have hUe : U.heap.size = w.heap.size + 1 := by rw [hU]; simp
  have hbV : Below w.heap.size w V := by rw [hV, hU]; exact (box_below _ _).alloc (by simp) _
  have hcV : V.cell? ⟨w.heap.size, 0, none⟩ = some (.slice a L.length c) := by rw [hV]; exact (World.cell?_alloc_lt _ _ ⟨w.heap.size, 0, none⟩ (show w.heap.size < U.heap.size by omega)).trans (by rw [hU]; exact box_cell w _)
  have hAV : Arr V (w.heap.size + 1) 42 [Value.slice none 0 0] := by rw [hV, ← hUe]; exact Arr.new _ _ _
  have HV : Hid (V = (w.alloc (.cells #[.slice a L.length c] 42)).alloc (.cells [Value.slice none 0 0].toArray 42)) := Lib.hid (by rw [hV, hU])
  have hVs := hAV.lt
  have hc1 := clone_anyG L a c V (hr.below hbV) hb
  clear hU hV hr
  go_enter Try.func30, Try.ntmps30
  go_wp2_with (first | (refine wpList_alloc_arr 42 [Value.slice none 0 0] zeroSg rfl rfl ?_; rw [← HV.out]))
  refine hc1.mono ?_
  rintro e w1 ⟨v, rfl, ho, hb1⟩
  obtain ⟨a1, c1, rfl, -⟩ := row_open ho
  have hA1 := hAV.below hb1
  have hb2 := hbV.trans (hb1.mono hbV.size)
  have hap := own_apart ho (g := w.heap.size + 1) (.inl hVs)
  clear hc1 hcV
  go_wp2_with (first | (refine wpList_store_arr 42 (.tmp 2) (.tmp 6) (w.heap.size + 1) [Value.slice none 0 0] [Value.slice a1 L.length c1] rfl rfl rfl rfl hA1 rfl sizeSg (by simp [Value.oneCell']) ?_; intro w2 hA2 hg2 hz2; clear hz2))
  have hb3 := hb2.grown hg2 hb2.size (fun k hk => by cases hk; omega)
  exact bodyPost_ret (results_arr rfl _ _ (w.heap.size + 1) [Value.slice a1 L.length c1] dS rfl hA2 hdS hrS sizeSg) rfl ⟨_, _, rfl, ownsBase (ho.kept hg2 hap) hbV.size, hb3⟩
end Go.Proofs.Ytekeaigdphicaaa
