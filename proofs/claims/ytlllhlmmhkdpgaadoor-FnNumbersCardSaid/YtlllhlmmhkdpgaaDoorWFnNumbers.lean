/-
  THE WALK OF THE LAW FnNumbers: numbers are parsed from their numerals, and parsed texts are numerals, at every drawn number and text.
-/
import Derived.Test.YtlllhlmmhkdpgaaDoorRows
import Derived.Test.YtlllhlmmhkdpgaaDoorRead
import Derived.Test.YtlllhlmmhkdpgaaDoorParse
import Derived.Test.YtlllhlmmhkdpgaaDoorErrs
import Derived.Test.YtlllhlmmhkdpgaaDoorDrawNum
import Derived.Test.YtlllhlmmhkdpgaaDoorBig
namespace Go.Proofs.YtlllhlmmhkdpgaaDoor
open Go Go.RowKit

set_option maxRecDepth 100000 in
set_option maxHeartbeats 1600000 in
theorem numbers_small (p0 : Option Addr) (len0 cap0 : Nat) (z0 : List Int) (W : World) (r0 : IsRow .u8 W p0 len0 cap0 z0) (hl : len0 ≤ 1048576)
    (ht : Lib.TabIs Tryd.prog W "internal/strconv.uint64pow10" .u64 Lib.pow10Tab) (t0 t1 : TypeId) (q0 q1 : Value) (hv0 : W.var? Tryd.prog "strconv.ErrSyntax" = some #[.iface t0 q0]) (hv1 : W.var? Tryd.prog "strconv.ErrRange" = some #[.iface t1 q1]) :
    Calls Tryd.prog 3 #[.slice p0 len0 cap0] W fun e w' => e = .returned (.bool true) ∧ Below W.heap.size W w' := by
  have cb := big_any p0 len0 cap0 W (by unfold maxLen; omega)
  rw [decide_eq_false (show ¬ 1048576 < len0 by omega)] at cb
  have cd := DrawFormatInt_any W p0 len0 cap0 z0 r0 hl
  go_enter Tryd.func3, Tryd.ntmps3
  go_wp2_with fail
  refine cb.mono ?_
  rintro e w0 ⟨rfl, rfl⟩
  go_wp2_with fail
  refine cd.mono ?_
  rintro e w1 ⟨⟨v, ⟨n, ⟨hn0, hn1⟩, rfl⟩, rfl⟩, hb1⟩
  clear cb cd
  go_wp2_with fail
  refine (impl_FormatInt n hn0 hn1 _ (powIs_below ht hb1)).mono ?_
  rintro e w2 ⟨rfl, hb2⟩
  have hb12 := hb1.trans (hb2.mono hb1.size)
  clear hb1 hb2
  have hsz : (⟨(Lib.itoa n).toArray⟩ : ByteArray).size ≤ 20 := itoa_size ⟨hn0, hn1⟩
  have c3 := impl_ParseInt ⟨(Lib.itoa n).toArray⟩ (by omega) w2 (powIs_below ht hb12) t0 t1 q0 q1 (varIs_below gSyn hv0 hb12) (varIs_below gRng hv1 hb12)
  clear hsz
  go_wp2_with fail
  refine c3.mono ?_
  rintro e w3 ⟨rfl, hb3⟩
  clear c3
  have hb13 := hb12.trans (hb3.mono hb12.size)
  clear hb12 hb3
  have hcase : (readOf (Lib.itoa n) (-999999999999) 999999999999 = some n ∧ (((Lib.itoa n).length : Int) ≤ 12 ∨ (n < 0 ∧ 12 < ((Lib.itoa n).length : Int) ∧ ((Lib.itoa n).length : Int) ≤ 13))) ∨
      (readOf (Lib.itoa n) (-999999999999) 999999999999 = none ∧ 12 < ((Lib.itoa n).length : Int) ∧ (0 ≤ n ∨ (n < 0 ∧ 13 < ((Lib.itoa n).length : Int)))) := by
    by_cases hin : -999999999999 ≤ n ∧ n ≤ 999999999999
    · refine .inl ⟨readOf_some rfl hin.1 hin.2, ?_⟩
      have h13 := decDigits_length 11 n.natAbs (by omega)
      by_cases hneg : n < 0
      · rw [itoa_below hneg, List.length_cons]; omega
      · rw [itoa_nonneg (by omega)]; omega
    · refine .inr ⟨readOf_none fun m hm a b => hin (by rw [← itoa_inj hm]; exact ⟨a, b⟩), ?_⟩
      have h13 := decDigits_long 12 n.natAbs (by omega)
      by_cases hneg : n < 0
      · rw [itoa_below hneg, List.length_cons]; omega
      · rw [itoa_nonneg (by omega)]; omega
  have hsm : (Lib.itoa n).length ≤ 20 := by have := itoa_size (x := n) ⟨hn0, hn1⟩; simpa [ByteArray.size] using this
  have ht3 := powIs_below ht hb13
  have hv03 := varIs_below gSyn hv0 hb13
  have hv13 := varIs_below gRng hv1 hb13
  clear ht hv0 hv1
  have c4 := spec_FormatInt n hn0 hn1 w3
  rcases hcase with ⟨hr, hlen | ⟨hneg, hlen, hlen2⟩⟩ | ⟨hr, hlen, hneg | ⟨hneg, hlen2⟩⟩
  all_goals
    rw [hr]
    clear hr
    unfold rdTuple
    generalize Lib.itoa n = l at *
    go_wp2_with fail
    refine c4.mono ?_
    rintro e w4 ⟨rfl, hb4⟩
    go_wp2_with fail
  all_goals
    have hb14 := hb13.trans (hb4.mono hb13.size)
    have ht4 := powIs_below ht3 hb4
    have hv04 := varIs_below gSyn hv03 hb4
    have hv14 := varIs_below gRng hv13 hb4
    clear hb13 hb4 ht3 hv03 hv13 c4 hlen
    refine (DrawParseNumber_any w4 p0 len0 cap0 z0 (r0.below hb14) hl).mono ?_
    rintro e w5 ⟨⟨v, ⟨t, htz, rfl⟩, rfl⟩, hb5⟩
    have hb15 := hb14.trans (hb5.mono hb14.size)
    have ht5 := powIs_below ht4 hb5
    have hv05 := varIs_below gSyn hv04 hb5
    have hv15 := varIs_below gRng hv14 hb5
    clear hb14 hb5 ht4 hv04 hv14
    go_wp2_with fail
    refine (impl_ParseNumber t (by omega) w5 ht5 t0 t1 q0 q1 hv05 hv15).mono ?_
    rintro e w6 ⟨rfl, hb6⟩
    have hb16 := hb15.trans (hb6.mono hb15.size)
    have ht6 := powIs_below ht5 hb6
    clear hb15 hb6 ht5 hv05 hv15
    have c6 := spec_ParseNumber t (by unfold maxLen; omega) w6
    cases hrd : readOf t.data.toList 0 999999 with
    | none =>
      rw [hrd] at c6
      clear hrd
      unfold rdTuple at *
      go_wp2_with fail
      refine c6.mono ?_
      rintro e w7 ⟨rfl, hb7⟩
      clear c6
      go_wp2_with fail
      go_ret
      exact ⟨rfl, hb16.trans (hb7.mono hb16.size)⟩
    | some y =>
      obtain ⟨hy, hy0, hy1⟩ := readOf_sound hrd
      rw [hrd] at c6
      clear hrd
      unfold rdTuple at *
      have HY := Lib.hid hy
      clear hy
      go_wp2_with fail
      refine c6.mono ?_
      rintro e w7 ⟨rfl, hb7⟩
      have hb17 := hb16.trans (hb7.mono hb16.size)
      have c7 := fmt_is t y HY.out (by omega) (by omega) w7 (powIs_below ht6 hb7)
      clear c6 hb16 hb7 ht6
      go_wp2_with fail
      refine c7.mono ?_
      rintro e w8 ⟨rfl, hb8⟩
      have hb18 := hb17.trans (hb8.mono hb17.size)
      clear c7 hb17 hb8
      go_wp2_with fail
      go_ret
      exact ⟨rfl, hb18⟩

theorem FnNumbers.walk (p0 : Option Addr) (len0 cap0 : Nat) (z0 : List Int) (W : World) (r0 : IsRow .u8 W p0 len0 cap0 z0) (hL : laidMetH Tryd.prog Rows.fnNumbersRow.laid W) (_hsh : W.ShapedOpen Tryd.prog) :
    Calls Tryd.prog 3 #[.slice p0 len0 cap0] W fun e w' => e = .returned (.bool true) ∧ Below W.heap.size W w' := by
  have ht := powIs (by kernel_rfl) hL
  obtain ⟨t0, q0, hv0⟩ := synIs (by kernel_rfl) hL
  obtain ⟨t1, q1, hv1⟩ := rngIs (by kernel_rfl) hL
  by_cases hl : len0 ≤ 1048576
  · exact numbers_small p0 len0 cap0 z0 W r0 hl ht t0 t1 q0 q1 hv0 hv1
  · have cb := big_any p0 len0 cap0 W (row_maxLen r0)
    rw [decide_eq_true (show 1048576 < len0 by omega)] at cb
    clear hL ht hv0 hv1
    go_enter Tryd.func3, Tryd.ntmps3
    go_wp2_with fail
    refine cb.mono ?_
    rintro e w0 ⟨rfl, rfl⟩
    go_wp2_with fail
    go_ret
    exact ⟨rfl, Below.refl _ _⟩
end Go.Proofs.YtlllhlmmhkdpgaaDoor
