/-
  THE WALK OF THE LAW FnExactJoin: the program's Join (strings.Join) and the reference's give the same text, and leave the list alone.
-/
import Derived.Test.YtlllhlmmhkdpgaaRows
import Derived.Test.YtlllhlmmhkdpgaaJoinS
import Derived.Test.YtlllhlmmhkdpgaaHStr
import Derived.Test.YtlllhlmmhkdpgaaShJoin
import Derived.Deep.DeepFit
namespace Go.Proofs.Ytlllhlmmhkdpgaa
open Go Go.RowKit

/-- impl.Join. -/
theorem impl_Join (L : List ByteArray) (sep : ByteArray) (a : Option Addr) (cap : Nat) (w : World) (hr : SlV w a (L.map Value.string)) (h1 : L.length ≤ 1048576) (h2 : sizes L ≤ 1048576) (h3 : sep.size ≤ 1048576) (hcap : L.length ≤ cap) :
    Calls Try.prog 7 #[.slice a L.length cap, .string sep] w fun e w' => e = .returned (.string ⟨(Lib.join (L.map (·.data.toList)) sep.data.toList).toArray⟩) ∧ Below w.heap.size w w' := by
  have hlen := J_length L sep L.length h1 h2 h3
  rw [J_all] at hlen
  by_cases h0 : L = []
  · subst h0
    go_enter Try.func7, Try.ntmps7
    go_wp2_with (go_at_call 9; refine (Try.strings_Join_none _ _ _ _).mono ?_; rintro e w' ⟨rfl, rfl⟩)
    go_ret
    exact ⟨rfl, Below.refl _ _⟩
  · obtain ⟨b, off, rfl, hbs, hc⟩ := hr.open (by simpa using h0)
    have c := Try.strings_Join b off cap L sep w (fun j x hx => hc j (.string x) (by simp [hx])) hbs (by omega) hcap (by omega)
    clear hr hc h0
    go_enter Try.func7, Try.ntmps7
    go_wp2_with (go_at_call 9; refine c.mono ?_; rintro e w' ⟨rfl, hb⟩)
    go_ret
    exact ⟨rfl, hb⟩

set_option maxRecDepth 100000 in
set_option maxHeartbeats 400000 in
theorem join_law (L : List ByteArray) (cap0 : Nat) (p0 : Option Addr) (a1 : ByteArray) (hs1 : a1.size ≤ maxLen) (W : World) (hr : SlV W p0 (L.map Value.string)) (hm : L.length ≤ maxLen) (hs : ∀ s ∈ L, s.size ≤ maxLen) :
    Calls Try.prog 3 #[.slice p0 L.length cap0, .string a1] W fun e w' => e = .returned (.bool true) ∧ Below W.heap.size W w' := by
  by_cases hbig : 1048576 < a1.size
  · unfold maxLen at hs1
    go_enter Try.func3, Try.ntmps3
    go_wp2_with fail
    go_ret
    exact ⟨rfl, Below.refl _ _⟩
  · have h3 : a1.size ≤ 1048576 := by omega
    have c0 := szStringS_any L p0 cap0 1048576 W hr hm hs (Nat.le_refl _)
    clear hbig hs1
    go_enter Try.func3, Try.ntmps3
    go_wp2_with fail
    refine c0.mono ?_
    rintro e w0 ⟨r, rfl, hfit, rfl⟩
    clear c0
    by_cases hneg : r < 0
    · clear hfit
      go_wp2_with fail
      go_ret
      exact ⟨rfl, Below.refl _ _⟩
    · have hf := hfit (by omega)
      have h1 : L.length ≤ 1048576 := by omega
      have h2 : sizes L ≤ 1048576 := by omega
      clear hf hfit hm hs
      go_wp2_with fail
      refine (toStringS_any L p0 cap0 _ hr h1).mono ?_
      rintro e w1 ⟨rfl, ho1, hb1⟩
      obtain ⟨q1, k1, e1, -, -, hs1, -⟩ := SlV.of_owns ho1
      cases e1
      clear ho1
      go_wp2_with fail
      refine (spec_Join L a1 _ _ _ hs1 h1 h2 h3).mono ?_
      rintro e w2 ⟨rfl, hb2⟩
      have hb12 := hb1.trans (hb2.mono hb1.size)
      clear hs1 hb1 hb2
      go_wp2_with fail
      refine (toStringS_any L p0 cap0 _ (hr.below hb12) h1).mono ?_
      rintro e w3 ⟨rfl, ho3, hb3⟩
      obtain ⟨q3, k3, e3, -, -, hs3, -⟩ := SlV.of_owns ho3
      cases e3
      clear ho3
      have hb13 := hb12.trans (hb3.mono hb12.size)
      clear hb12 hb3
      go_wp2_with fail
      refine (impl_Join L a1 _ _ _ hs3 h1 h2 h3 (Nat.le_refl _)).mono ?_
      rintro e w4 ⟨rfl, hb4⟩
      have hs4 := hs3.below hb4
      have hb14 := hb13.trans (hb4.mono hb13.size)
      clear hs3 hb4 hb13
      go_wp2_with fail
      refine (toStringS_any L p0 cap0 _ (hr.below hb14) h1).mono ?_
      rintro e w5 ⟨rfl, ho5, hb5⟩
      obtain ⟨q5, k5, e5, -, -, hs5, -⟩ := SlV.of_owns ho5
      cases e5
      clear ho5
      have hs45 := hs4.below hb5
      have hb15 := hb14.trans (hb5.mono hb14.size)
      clear hs4 hb5 hb14
      go_wp2_with fail
      refine (eqStringS_any L L _ _ _ _ _ hs45 hs5 (by omega) (by omega)).mono ?_
      rintro e w6 ⟨rfl, hb6⟩
      have hb16 := hb15.trans (hb6.mono hb15.size)
      rw [decide_eq_true (rfl : L = L)]
      go_wp2_with fail
      go_ret
      exact ⟨rfl, hb16⟩

theorem FnExactJoin.walk (p0 : Option Addr) (len0 cap0 : Nat) (z0 : List ByteArray) (a1 : ByteArray) (hs1 : a1.size ≤ maxLen) (W : World) (r0 : IsStrs W p0 len0 cap0 z0) (_hsh : W.ShapedOpen Try.prog) :
    Calls Try.prog 3 #[.slice p0 len0 cap0, .string a1] W fun e w' => e = .returned (.bool true) ∧ Below W.heap.size W w' := by
  obtain ⟨hr, hl, hs⟩ := SlV.of_strs r0
  have hm : len0 ≤ maxLen := by
    rcases r0 with ⟨rfl, -, -⟩ | ⟨_, _, _, _, h1, h2, _⟩
    · exact Nat.zero_le _
    · omega
  have := join_law (z0.take len0) cap0 p0 a1 hs1 W hr (by omega) hs
  rw [hl] at this
  exact this
end Go.Proofs.Ytlllhlmmhkdpgaa
