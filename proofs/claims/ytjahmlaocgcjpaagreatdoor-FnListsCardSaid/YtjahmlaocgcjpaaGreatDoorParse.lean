/-
  CONTRACTS of impl.mustParse, impl.ParseInt and impl.ParseNumber: what 'readOf' says; a malformed text is a panic of mustParse that the two recover.
-/
import Derived.Test.YtjahmlaocgcjpaaGreatDoorParseM
import Derived.Test.YtjahmlaocgcjpaaGreatDoorTabs
import Derived.Test.YtjahmlaocgcjpaaGreatDoorShItoa
import Derived.Test.YtjahmlaocgcjpaaGreatDoorShAtoi
import Derived.WalkKit
import Derived.WalkLawsBesides
import Derived.BigQuiet
import Derived.Deep.QuietTactic
import Derived.Defers
import Derived.Recover
import Derived.Outline
import Derived.Lib.AtoiErrMem
namespace Go.Proofs.YtjahmlaocgcjpaaGreatDoor
open Go Go.RowKit

/-- impl.FormatInt. -/
theorem impl_FormatInt (n : Int) (h0 : -9223372036854775808 ≤ n) (h1 : n ≤ 9223372036854775807) (w : World) (ht : Lib.TabIs Tryz.prog w "internal/strconv.uint64pow10" .u64 Lib.pow10Tab) :
    Calls Tryz.prog 52 #[.int .i64 n] w fun e w' => e = .returned (.string ⟨(Lib.itoa n).toArray⟩) ∧ Below w.heap.size w w' := by
  go_enter Tryz.func52, Tryz.ntmps52
  go_wp2_with (go_at_call 69; refine (Tryz.strconv_Itoa n h0 h1 _ ht).mono ?_; rintro e w' ⟨rfl, k, os, rfl⟩)
  go_ret
  exact ⟨rfl, below_grow _ _⟩

/-- strconv.Atoi where the text is a numeral. -/
theorem atoi_ok (s : ByteArray) (hs : s.size ≤ 281474976710656) (v : Int) (h : Lib.atoiAll s.data.toList = .ok v) (w : World) :
    Calls Tryz.prog 75 #[.string s] w fun e w' => e = .returned (.tuple #[.int .i64 v, .nilIface]) ∧ Below w.heap.size w w' := by
  refine (Tryz.strconv_Atoi_ok s (by omega) v h w).mono ?_
  rintro e w' ⟨rfl, rfl | ⟨t, rfl⟩⟩
  · exact ⟨rfl, Below.refl _ _⟩
  · exact ⟨rfl, Lib.bytesWorld_below _ _ _⟩

theorem atoi_no (s : ByteArray) (hs : s.size ≤ 281474976710656) (h : ∀ v, Lib.atoiAll s.data.toList ≠ .ok v) (w : World) (t0 t1 : TypeId) (p0 p1 : Value) (hv0 : w.var? Tryz.prog "strconv.ErrSyntax" = some #[.iface t0 p0]) (hv1 : w.var? Tryz.prog "strconv.ErrRange" = some #[.iface t1 p1]) :
    Calls Tryz.prog 75 #[.string s] w fun e w' => ∃ (n : Int) (N : Nat), e = .returned (.tuple #[.int .i64 n, .iface 112 (.pointer (some ⟨N, 0, none⟩))]) ∧ Below w.heap.size w w' := by
  rcases hx : Lib.atoiAll s.data.toList with v | _ | _
  · exact absurd hx (h v)
  · refine (Tryz.strconv_Atoi_syntax_var s hs hx t0 p0 w hv0).mono ?_
    rintro e w' ⟨N, rfl, -, -, hb⟩
    exact ⟨_, N, rfl, hb⟩
  · refine (Tryz.strconv_Atoi_range_var s hs hx t1 p1 w hv1).mono ?_
    rintro e w' ⟨N, rfl, -, -, hb⟩
    exact ⟨_, N, rfl, hb⟩

def Panicked (w : World) (e : Ending) (w' : World) : Prop := (∃ v, e = .panicked [{ v := .iface 9 v, recovered := false }]) ∧ Below w.heap.size w w'

set_option maxRecDepth 100000 in
theorem must_bad (s : ByteArray) (hs : s.size ≤ 281474976710656) (lo hi : Int) (h : ∀ v, Lib.atoiAll s.data.toList ≠ .ok v) (w : World) (t0 t1 : TypeId) (p0 p1 : Value) (hv0 : w.var? Tryz.prog "strconv.ErrSyntax" = some #[.iface t0 p0]) (hv1 : w.var? Tryz.prog "strconv.ErrRange" = some #[.iface t1 p1]) :
    Calls Tryz.prog 63 #[.string s, .int .i64 lo, .int .i64 hi] w (Panicked w) := by
  have c := atoi_no s hs h w t0 t1 p0 p1 hv0 hv1
  clear hv0 hv1 h
  go_enter Tryz.func63, Tryz.ntmps63
  go_wp2_with fail
  refine c.mono ?_
  rintro e w1 ⟨n, N, rfl, hb⟩
  go_wp2_with fail
  exact ⟨rfl, ⟨_, rfl⟩, hb⟩

/-- FormatInt of v where v's numeral is s. -/
theorem fmt_is (s : ByteArray) (v : Int) (he : Lib.itoa v = s.data.toList) (h0 : -9223372036854775808 ≤ v) (h1 : v ≤ 9223372036854775807) (w : World) (ht : Lib.TabIs Tryz.prog w "internal/strconv.uint64pow10" .u64 Lib.pow10Tab) :
    Calls Tryz.prog 52 #[.int .i64 v] w fun e w' => e = .returned (.string s) ∧ Below w.heap.size w w' := by
  have e1 : (⟨(Lib.itoa v).toArray⟩ : ByteArray) = s := by rw [he]
  rw [← e1]
  exact impl_FormatInt v h0 h1 w ht

set_option maxRecDepth 100000 in
set_option maxHeartbeats 400000 in
theorem must_ok (s : ByteArray) (hs : s.size ≤ 281474976710656) (lo hi v : Int) (h : Lib.atoiAll s.data.toList = .ok v) (he : Lib.itoa v = s.data.toList) (h0 : lo ≤ v) (h1 : v ≤ hi) (w : World)
    (ht : Lib.TabIs Tryz.prog w "internal/strconv.uint64pow10" .u64 Lib.pow10Tab) :
    Calls Tryz.prog 63 #[.string s, .int .i64 lo, .int .i64 hi] w fun e w' => e = .returned (.int .i64 v) ∧ Below w.heap.size w w' := by
  have c := atoi_ok s hs v h w
  obtain ⟨b0, b1⟩ := Lib.atoiAll_bounds h
  have c2 := fmt_is s v he b0 b1
  clear h he
  go_enter Tryz.func63, Tryz.ntmps63
  go_wp2_with fail
  refine c.mono ?_
  rintro e w1 ⟨rfl, hb⟩
  have ht1 := powIs_below ht hb
  clear c ht
  go_wp2_with fail
  refine (c2 _ ht1).mono ?_
  rintro e w2 ⟨rfl, hb2⟩
  clear c2
  go_wp2_with fail
  go_ret
  exact ⟨rfl, hb.trans (hb2.mono hb.size)⟩

set_option maxRecDepth 100000 in
set_option maxHeartbeats 400000 in
theorem must_other (s : ByteArray) (hs : s.size ≤ 281474976710656) (lo hi v : Int) (h : Lib.atoiAll s.data.toList = .ok v) (he : Lib.itoa v ≠ s.data.toList) (w : World)
    (ht : Lib.TabIs Tryz.prog w "internal/strconv.uint64pow10" .u64 Lib.pow10Tab) :
    Calls Tryz.prog 63 #[.string s, .int .i64 lo, .int .i64 hi] w (Panicked w) := by
  have c := atoi_ok s hs v h w
  obtain ⟨b0, b1⟩ := Lib.atoiAll_bounds h
  have c2 := fun w1 ht1 => impl_FormatInt v b0 b1 w1 ht1
  have hne : ((⟨(Lib.itoa v).toArray⟩ : ByteArray).toList == s.toList) = false := by
    rw [beq_eq_false_iff_ne, ByteArray.toList_eq, ByteArray.toList_eq]; exact he
  clear h he
  generalize (⟨(Lib.itoa v).toArray⟩ : ByteArray) = r at *
  go_enter Tryz.func63, Tryz.ntmps63
  go_wp2_with fail
  refine c.mono ?_
  rintro e w1 ⟨rfl, hb⟩
  have ht1 := powIs_below ht hb
  clear c ht
  go_wp2_with fail
  refine (c2 _ ht1).mono ?_
  rintro e w2 ⟨rfl, hb2⟩
  clear c2
  go_wp2_with fail
  exact ⟨rfl, ⟨_, rfl⟩, hb.trans (hb2.mono hb.size)⟩

set_option maxRecDepth 100000 in
set_option maxHeartbeats 400000 in
theorem must_beyond (s : ByteArray) (hs : s.size ≤ 281474976710656) (lo hi v : Int) (h : Lib.atoiAll s.data.toList = .ok v) (he : Lib.itoa v = s.data.toList) (hr : v < lo ∨ hi < v) (w : World)
    (ht : Lib.TabIs Tryz.prog w "internal/strconv.uint64pow10" .u64 Lib.pow10Tab) :
    Calls Tryz.prog 63 #[.string s, .int .i64 lo, .int .i64 hi] w (Panicked w) := by
  have c := atoi_ok s hs v h w
  obtain ⟨b0, b1⟩ := Lib.atoiAll_bounds h
  have c2 := fmt_is s v he b0 b1
  clear h he
  by_cases hlo : v < lo
  · clear hr
    go_enter Tryz.func63, Tryz.ntmps63
    go_wp2_with fail
    refine c.mono ?_
    rintro e w1 ⟨rfl, hb⟩
    have ht1 := powIs_below ht hb
    clear c ht
    go_wp2_with fail
    refine (c2 _ ht1).mono ?_
    rintro e w2 ⟨rfl, hb2⟩
    clear c2
    go_wp2_with fail
    exact ⟨rfl, ⟨_, rfl⟩, hb.trans (hb2.mono hb.size)⟩
  · have hhi : hi < v := by omega
    clear hr
    go_enter Tryz.func63, Tryz.ntmps63
    go_wp2_with fail
    refine c.mono ?_
    rintro e w1 ⟨rfl, hb⟩
    have ht1 := powIs_below ht hb
    clear c ht
    go_wp2_with fail
    refine (c2 _ ht1).mono ?_
    rintro e w2 ⟨rfl, hb2⟩
    clear c2
    go_wp2_with fail
    exact ⟨rfl, ⟨_, rfl⟩, hb.trans (hb2.mono hb.size)⟩

/-! The deferred closures: they recover a panic, and do nothing else. -/
theorem catchI_panicking (u : TypeId) (pv : Value) (older : List PanicEntry) (w : World) :
    CallsD Tryz.prog 62 #[] (.panicking ({ v := .iface u pv, recovered := false } :: older)) w fun e u' w' =>
      e = .returned (.tuple #[]) ∧ u' = .panicking ({ v := .iface u pv, recovered := true } :: older) ∧ w' = w := by
  refine callsD_of_wpS Tryz.func62 rfl fun c₀ cs hu => ?_
  apply wpS_region
  simp [wpOpsS, go_sem, recoverD, hu, Tryz.ntmps62, bodyPostS, results, Tryz.results62]
theorem catchI_idle (w : World) :
    CallsD Tryz.prog 62 #[] .returning w fun e u' w' => e = .returned (.tuple #[]) ∧ u' = .returning ∧ w' = w := by
  refine callsD_of_wpS Tryz.func62 rfl fun c₀ cs hu => ?_
  apply wpS_region
  simp [wpOpsS, go_sem, recoverD, hu, Tryz.ntmps62, bodyPostS, results, Tryz.results62]
  cases c₀
  simp_all

set_option maxRecDepth 100000 in
theorem parseInt_yes (s : ByteArray) (v : Int) (w : World)
    (c : Calls Tryz.prog 63 #[.string s, .int .i64 (-999999999999), .int .i64 999999999999] w fun e w' => e = .returned (.int .i64 v) ∧ Below w.heap.size w w') :
    Calls Tryz.prog 43 #[.string s] w fun e w' => e = .returned (rdTuple (some v)) ∧ Below w.heap.size w w' := by
  go_enter_defers Tryz.func43, Tryz.ntmps43
  go_wp2_with fail
  refine c.mono ?_
  rintro e w1 ⟨rfl, hb⟩
  clear c
  go_wp2_with fail
  refine leaves_cons (f := 62) (args := #[]) (by simp) (by simp [go_sem]) ?_
  refine (catchI_idle _).mono ?_
  rintro e u' w'' ⟨rfl, rfl, rfl⟩
  simp [Leaves, settle, results, Tryz.results43, go_sem, rdTuple]
  exact hb

set_option maxRecDepth 100000 in
theorem parseInt_no (s : ByteArray) (w : World)
    (c : Calls Tryz.prog 63 #[.string s, .int .i64 (-999999999999), .int .i64 999999999999] w (Panicked w)) :
    Calls Tryz.prog 43 #[.string s] w fun e w' => e = .returned (rdTuple none) ∧ Below w.heap.size w w' := by
  go_enter_defers Tryz.func43, Tryz.ntmps43
  go_wp2_with fail
  refine c.mono ?_
  rintro e w1 ⟨⟨pv, rfl⟩, hb⟩
  clear c
  go_wp2_with fail
  refine leaves_cons (f := 62) (args := #[]) (by simp) (by simp [go_sem]) ?_
  refine (catchI_panicking _ _ [] _).mono ?_
  rintro e u' w'' ⟨rfl, rfl, rfl⟩
  simp [Leaves, settle, results, Tryz.results43, go_sem, rdTuple]
  exact hb



/-- Every road of mustParse. -/
theorem must_every (s : ByteArray) (hs : s.size ≤ 281474976710656) (lo hi : Int) (hlo : -999999999999 ≤ lo) (hhi : hi ≤ 999999999999) (w : World)
    (ht : Lib.TabIs Tryz.prog w "internal/strconv.uint64pow10" .u64 Lib.pow10Tab) (t0 t1 : TypeId) (p0 p1 : Value) (hv0 : w.var? Tryz.prog "strconv.ErrSyntax" = some #[.iface t0 p0]) (hv1 : w.var? Tryz.prog "strconv.ErrRange" = some #[.iface t1 p1]) :
    (∃ v, readOf s.data.toList lo hi = some v ∧ Calls Tryz.prog 63 #[.string s, .int .i64 lo, .int .i64 hi] w fun e w' => e = .returned (.int .i64 v) ∧ Below w.heap.size w w') ∨
    (readOf s.data.toList lo hi = none ∧ Calls Tryz.prog 63 #[.string s, .int .i64 lo, .int .i64 hi] w (Panicked w)) := by
  by_cases hx : ∃ v, Lib.atoiAll s.data.toList = .ok v
  · obtain ⟨v, hx⟩ := hx
    by_cases he : Lib.itoa v = s.data.toList
    · by_cases hr : v < lo ∨ hi < v
      · exact .inr ⟨readOf_ok hlo hhi hx (by omega), must_beyond s hs lo hi v hx he hr w ht⟩
      · exact .inl ⟨v, readOf_some he (by omega) (by omega), must_ok s hs lo hi v hx he (by omega) (by omega) w ht⟩
    · exact .inr ⟨readOf_ok hlo hhi hx (fun h => he h.1), must_other s hs lo hi v hx he w ht⟩
  · have hx' : ∀ v, Lib.atoiAll s.data.toList ≠ .ok v := fun v h => hx ⟨v, h⟩
    exact .inr ⟨readOf_bad hlo hhi hx', must_bad s hs lo hi hx' w t0 t1 p0 p1 hv0 hv1⟩

/-- impl.ParseInt, AT EVERY STRING. -/
theorem impl_ParseInt (s : ByteArray) (hs : s.size ≤ 281474976710656) (w : World)
    (ht : Lib.TabIs Tryz.prog w "internal/strconv.uint64pow10" .u64 Lib.pow10Tab) (t0 t1 : TypeId) (p0 p1 : Value) (hv0 : w.var? Tryz.prog "strconv.ErrSyntax" = some #[.iface t0 p0]) (hv1 : w.var? Tryz.prog "strconv.ErrRange" = some #[.iface t1 p1]) :
    Calls Tryz.prog 43 #[.string s] w fun e w' => e = .returned (rdTuple (readOf s.data.toList (-999999999999) 999999999999)) ∧ Below w.heap.size w w' := by
  rcases must_every s hs (-999999999999) 999999999999 (by omega) (by omega) w ht t0 t1 p0 p1 hv0 hv1 with ⟨v, hr, c⟩ | ⟨hr, c⟩
  · rw [hr]; exact parseInt_yes s v w c
  · rw [hr]; exact parseInt_no s w c

end Go.Proofs.YtjahmlaocgcjpaaGreatDoor
