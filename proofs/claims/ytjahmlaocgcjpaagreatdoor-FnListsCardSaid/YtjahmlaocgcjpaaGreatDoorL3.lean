/-
  CONTRACT of the reference's SortList: insertion into a row of the call's own.
-/
import Derived.Test.YtjahmlaocgcjpaaGreatDoorL2
import Derived.Deep.RegionHeld3
import Derived.Deep.AppendLies
import Derived.WalkSmall
import Derived.KernelRfl
namespace Go.Proofs.YtjahmlaocgcjpaaGreatDoor
open Go Go.RowKit

theorem infoIntL : (Tryz.prog.info? 3).map (fun i => (i.zero, i.size, i.bytes)) = some (some (Value.int .i64 0), 1, 8) := by kernel_rfl

/-- The row's first part. -/
theorem owns_take {w : World} {base : Nat} {e : TypeId} {g n cap m : Nat} {xs : List Value} (h : w.ownsRow base e 1 (.slice (some ⟨g, 0, none⟩) n cap) n xs) (hm : m ≤ n) :
    w.ownsRow base e 1 (.slice (some ⟨g, 0, none⟩) m cap) m (xs.take m) := by
  obtain ⟨hl, ⟨hv, h0⟩ | ⟨g', cap', cur, hv, hb, hg, hn, hc, hs, ht⟩⟩ := h
  · cases hv
  · injection hv with h1 h2 h3
    injection h1 with h1
    injection h1 with h1
    subst h1 h3
    refine ⟨by rw [List.length_take]; omega, .inr ⟨g, cap, cur, rfl, hb, hg, by omega, hc, hs, ?_⟩⟩
    rw [← ht, List.take_take]
    congr 1
    omega

theorem owns_base {w : World} {base base' : Nat} {e : TypeId} {g n cap : Nat} {xs : List Value} (h : w.ownsRow base e 1 (.slice (some ⟨g, 0, none⟩) n cap) n xs) (hb' : base' ≤ g) :
    w.ownsRow base' e 1 (.slice (some ⟨g, 0, none⟩) n cap) n xs := by
  obtain ⟨hl, ⟨hv, h0⟩ | ⟨g', cap', cur, hv, hb, hg, hn, hc, hs, ht⟩⟩ := h
  · cases hv
  · injection hv with h1 h2 h3
    injection h1 with h1
    injection h1 with h1
    subst h1 h3
    exact ⟨hl, .inr ⟨g, cap, cur, rfl, hb', hg, hn, hc, hs, ht⟩⟩

/-- A row whose block stands as it stood. -/
theorem owns_block {w w' : World} {base : Nat} {e : TypeId} {g n cap : Nat} {xs : List Value} (h : w.ownsRow base e 1 (.slice (some ⟨g, 0, none⟩) n cap) n xs) (hg : w'.heap[g]? = w.heap[g]?) :
    w'.ownsRow base e 1 (.slice (some ⟨g, 0, none⟩) n cap) n xs := by
  obtain ⟨hl, ⟨hv, h0⟩ | ⟨g', cap', cur, hv, hb, hgc, hn, hc, hs, ht⟩⟩ := h
  · cases hv
  · injection hv with h1 h2 h3
    injection h1 with h1
    injection h1 with h1
    subst h1 h3
    exact ⟨hl, .inr ⟨g, cap, cur, rfl, hb, by rw [hg]; exact hgc, hn, hc, hs, ht⟩⟩

theorem owns_below {w w' : World} {base : Nat} {e : TypeId} {v : Value} {n : Nat} {xs : List Value} (h : w.ownsRow base e 1 v n xs) (hb : Below w.heap.size w w') : w'.ownsRow base e 1 v n xs := by
  have hl := h.lt
  obtain ⟨hx, hv | ⟨g, cap, cur, rfl, h1, h2, h3⟩⟩ := h
  · exact ⟨hx, .inl hv⟩
  · exact ⟨hx, .inr ⟨g, cap, cur, rfl, h1, by rw [hb.block g (hl g rfl).2]; exact h2, h3⟩⟩

theorem owns_facts {w : World} {base : Nat} {e : TypeId} {g n cap : Nat} {xs : List Value} (h : w.ownsRow base e 1 (.slice (some ⟨g, 0, none⟩) n cap) n xs) :
    base ≤ g ∧ g < w.heap.size ∧ n ≤ cap ∧ cap ≤ maxLen ∧ xs.length = n ∧ ∀ (i : Nat) (u : Value), xs[i]? = some u → w.cell? ⟨g, i, none⟩ = some u := by
  obtain ⟨hl, ⟨hv, h0⟩ | ⟨g', cap', cur, hv, hb, hg, hn, hc, hs, ht⟩⟩ := h
  · cases hv
  · injection hv with h1 h2 h3
    injection h1 with h1
    injection h1 with h1
    subst h1 h3
    refine ⟨hb, ?_, hn, hc, by omega, fun i u hi => ?_⟩
    · rcases Nat.lt_or_ge g w.heap.size with h1 | h1
      · exact h1
      · rw [Array.getElem?_eq_none h1] at hg; cases hg
    · rw [cell_of_row w g i cur e (0, 0) hg, ← hi, ← ht, List.getElem?_take, if_pos]
      · simp
      · have := (List.getElem?_eq_some_iff.1 hi).1
        omega

/-- An append at a step of a region that draws: of nothing too, where the row is not empty. -/
theorem step_append_some {P : Program} (w : World) {ops : Array Oper} {o : Oper} {a : Act} {K : Act → World → Prop} {Q : Exit → Act → World → Prop} {E : Prop} (hgd : o.guard = none) (s x : Operand) (t : TypeId)
    (ho : o.op = .call { callee := .builtin .append, args := #[s, x], argTypes := #[t, t] })
    (base : Nat) (e : TypeId) (i : TypeInfo) (z : Value) (size bytes : Nat) (ht : P.underlying t = some (.slice e)) (hi : P.info? e = some i) (hz : i.zero = some z)
    (hsize : i.size = size) (hby : i.bytes = bytes) (hzs : z.cells.size = size) (hsz : 0 < size)
    (v : Value) (n : Nat) (xs : List Value) (hs : a.eval s = v) (hown : w.ownsRow base e size v n xs)
    (ad : Addr) (m c : Nat) (news : List Value) (hx : a.eval x = .slice (some ad) m c) (hl : news.length = m * size) (hnews : ∀ j u, news[j]? = some u → w.cell? (ad.add j) = some u) (h1 : ∀ u ∈ news, u.oneCell' = true)
    (hm : 0 < n + m) (h63 : n + m ≤ maxLen) (hbytes : (n + m) * bytes ≤ 140737488355328) (hbase : base ≤ w.heap.size)
    (h : ∀ g cap w', w'.ownsRow base e size (.slice (some ⟨g, 0, none⟩) (n + m) cap) (n + m) (xs ++ news) → w.grownBy w' v.ownBlock → (v.ownBlock = some g ∨ g = w.heap.size) → g < w'.heap.size → K (a.put o.dst (.slice (some ⟨g, 0, none⟩) (n + m) cap)) w') :
    if Region.wanted o (yielded ops a.tmps) = true then Oper.wp P o a w K Q else E := by
  have hw : Region.wanted o (yielded ops a.tmps) = true := by simp [Region.wanted, hgd]
  rw [if_pos hw]
  obtain ⟨v', w', hr, h2, h3, _, h5⟩ := run_append_own_at (P := P) w base t o.type e i z size bytes ht hi hz hsize hby hzs hsz v n xs hown ad m c news hl hnews h1 h63 hbytes hbase
  obtain ⟨g, cap, rfl, _, hlt⟩ := h2.form (by omega)
  unfold Oper.wp execOp
  simp only [ho, resolve, invoke, builtin, Sem.run_bind, Sem.run_pure, Result.andThen_ok, List.map_toArray, List.map_cons, List.map_nil, hs, hx, hr]
  refine h g cap w' h2 h3 ?_ hlt
  rcases h5 with h5 | h5
  · exact .inl (by rw [← h5]; rfl)
  · right
    simpa [Value.ownBlock] using h5

theorem owns_open {w : World} {base : Nat} {e : TypeId} {v : Value} {n : Nat} {xs : List Value} (h : w.ownsRow base e 1 v n xs) (hne : v ≠ .slice none 0 0) : ∃ g cap, v = .slice (some ⟨g, 0, none⟩) n cap ∧ base ≤ g := by
  obtain ⟨hl, ⟨hv, h0⟩ | ⟨g, cap, cur, hv, hb, hg, hn, hc, hs, ht⟩⟩ := h
  · exact absurd hv hne
  · exact ⟨g, cap, hv, hb⟩

theorem news_of_owns {w w' : World} {base : Nat} {e : TypeId} {g n cap : Nat} {xs : List Value} (h : w.ownsRow base e 1 (.slice (some ⟨g, 0, none⟩) n cap) n xs) (hg : w'.heap[g]? = w.heap[g]?) (m : Nat) :
    ∀ j u, (xs.drop m)[j]? = some u → w'.cell? ((⟨g, m, none⟩ : Addr).add j) = some u := by
  intro j u hu
  have hadd : (⟨g, m, none⟩ : Addr).add j = ⟨g, m + j, none⟩ := by unfold Addr.add; split <;> simp_all
  rw [hadd]
  exact (owns_facts (owns_block h hg)).2.2.2.2.2 (m + j) u (by rw [← hu, List.getElem?_drop])
theorem int_cells (L : List Int) (m : Nat) : ∀ u ∈ (L.map (Value.int .i64)).drop m, u.oneCell' = true := by
  intro u hu
  obtain ⟨z, -, rfl⟩ := List.mem_map.1 (List.mem_of_mem_drop hu)
  rfl

def SortPost (L : List Int) (w : World) (e : Ending) (w' : World) : Prop :=
  ∃ g cap, e = .returned (.slice (some ⟨g, 0, none⟩) (sortL L).length cap) ∧ w'.ownsRow w.heap.size 3 1 (.slice (some ⟨g, 0, none⟩) (sortL L).length cap) (sortL L).length ((sortL L).map (Value.int .i64)) ∧ Below w.heap.size w w'

set_option maxRecDepth 100000 in
set_option maxHeartbeats 1600000 in
theorem spec_SortList (L : List Int) (a : Option Addr) (cap : Nat) (w : World) (hr : SlV w a (L.map (Value.int .i64))) (hb : L.length ≤ 1048576) :
    Calls Tryz.prog 18 #[.slice a L.length cap] w (SortPost L w) := by
  obtain ⟨i0, hi, hz0, hz1, hz2⟩ := info_parts infoIntL
  go_enter Tryz.func18, Tryz.ntmps18
  go_wp2_with fail
  have hown0 : (w.alloc (.cells #[] 3)).ownsRow w.heap.size 3 1 (.slice (some ⟨w.heap.size, 0, none⟩) 0 0) 0 [] := World.ownsRow_lit w #[] 0 (Nat.le_refl _) (by simp) rfl
  have hbel0 : Below w.heap.size w (w.alloc (.cells #[] 3)) := (Below.refl _ _).alloc (Nat.le_refl _) _
  go_loopw [3, 4] (fun v i wr => ∃ (k g c : Nat), k ≤ L.length ∧ i = .int .i64 (k : Int) ∧ v = .slice (some ⟨g, 0, none⟩) (sortL (L.take k)).length c ∧
      wr.ownsRow w.heap.size 3 1 (.slice (some ⟨g, 0, none⟩) (sortL (L.take k)).length c) (sortL (L.take k)).length ((sortL (L.take k)).map (Value.int .i64)) ∧ Below w.heap.size w wr) (fun _ i _ => L.length - (intOf i).toNat)
  case atStart => exact ⟨0, w.heap.size, 0, Nat.zero_le _, rfl, rfl, hown0, hbel0⟩
  case round =>
    clear hown0 hbel0
    obtain ⟨k, g, c, hk, rfl, rfl, hown, hbel⟩ := hrel
    by_cases hlt : k < L.length
    · obtain ⟨b, off, rfl, hbs, hc⟩ := hr.open (by intro h; rw [List.map_eq_nil_iff] at h; subst h; simp at hlt)
      have hcell : w.cell? ⟨b, off + k, none⟩ = some (.int .i64 L[k]) := hc k _ (by simp [hlt])
      have HN := Lib.hid (sortL_take L k hlt)
      have HL : (sortL (L.take k)).length ≤ k := by have := sortL_length_le (L.take k); rw [List.length_take] at this; omega
      have HA := Lib.hid (sortL_spec (L.take k)).1
      clear hc hr
      generalize L[k] = x at *
      generalize sortL (L.take k) = M at *
      go_wp2_with fail
      go_loopw [5] (fun p w2 => ∃ m : Nat, m ≤ M.length ∧ p = .int .i64 (m : Int) ∧ (∀ y ∈ M.drop m, x < y) ∧
        w2.ownsRow w.heap.size 3 1 (.slice (some ⟨g, 0, none⟩) M.length c) M.length (M.map (Value.int .i64)) ∧ Below w.heap.size w w2) (fun p _ => (intOf p).toNat)
      case atStart => exact ⟨M.length, Nat.le_refl _, rfl, by simp, hown, hbel⟩
      case round =>
        clear hown hbel
        obtain ⟨m, hm, rfl, hgt, hown, hbel⟩ := hrel
        have HG := Lib.hid hgt
        obtain ⟨hg0, hg1, hmc, hcm, hln, hcs⟩ := owns_facts hown
        have HC := Lib.hid hcs
        clear hgt hcs hln
        by_cases hm0 : 0 < m
        · have hm1 : m - 1 < M.length := by omega
          have hcellM : wr.cell? ⟨g, m - 1, none⟩ = some (.int .i64 M[m - 1]) := HC.out (m - 1) _ (by simp [hm1])
          have hcell2 : wr.cell? ⟨b, off + k, none⟩ = some (.int .i64 x) := (hbel.cell (p := ⟨b, off + k, none⟩) hbs).trans hcell
          have hi0 : (0 : Int) < (m : Int) := by omega
          have hx0 : (0 : Int) ≤ (k : Int) := by omega
          have hx1 : (k : Int) < (L.length : Int) := by omega
          have hx2 : (0 : Int) ≤ (m : Int) - 1 := by omega
          have hx3 : (m : Int) - 1 < (M.length : Int) := by omega
          have hw1 : IntKind.i64.wrap ((m : Int) - 1) = (m : Int) - 1 := IntWalk.i64_in _ (by omega)
          have ht1 : ((m : Int) - 1).toNat = m - 1 := by omega
          have HY := Lib.hid (List.getElem_mem hm1)
          by_cases hxy : x < M[m - 1]
          · have hq : decide (x < M[m - 1]) = true := decide_eq_true hxy
            have HD : Hid (∀ z ∈ M.drop (m - 1), x < z) := Lib.hid (by
              intro z hz
              rw [List.drop_eq_getElem_cons hm1, List.mem_cons] at hz
              rcases hz with hz | hz
              · rw [hz]; exact hxy
              · exact HG.out z (by rw [show m = m - 1 + 1 by omega]; exact hz))
            clear HY
            generalize M[m - 1] = y at *
            go_wp2_with fail
            go_quiet (fail)
            go_wp2_with fail
            go_roundw
            case rel => exact ⟨m - 1, by omega, by go_num, HD.out, owns_block hown rfl, below_drewN hbel _⟩
            case measure => simp [intOf]; omega
          · have hq : decide (x < M[m - 1]) = false := decide_eq_false hxy
            by_cases he : M[m - 1] = x
            · have hq2 : (M[m - 1] == x) = true := by rw [beq_iff_eq]; exact he
              have HE := Lib.hid (HN.out.trans (ins_mem x M HA.out (by have := HY.out; rw [he] at this; exact this)))
              clear HY hxy he
              generalize M[m - 1] = y at *
              go_wp2_with fail
              go_quiet (fail)
              go_wp2_with fail
              go_quiet (fail)
              go_wp2_with fail
              go_roundw
              case rel => exact ⟨k + 1, g, c, by omega, by go_num, by rw [HE.out], by rw [HE.out]; exact owns_block hown rfl, below_drewN hbel _⟩
              case measure => simp [intOf]; omega
            · have hq2 : (M[m - 1] == x) = false := by rw [beq_eq_false_iff_ne]; exact he
              have HLT : Hid (∀ z ∈ M.take m, z < x) := Lib.hid (by
                intro z hz
                obtain ⟨q, hq, rfl⟩ := List.mem_take_iff_getElem.1 hz
                rcases Nat.lt_or_ge q (m - 1) with h | h
                · have := HA.out q (m - 1) hm1 h
                  omega
                · have : q = m - 1 := by omega
                  subst this
                  omega)
              clear HY hxy he
              generalize M[m - 1] = y at *
              have hx4 : (m : Int) ≤ (M.length : Int) := by omega
              have hx5 : (m : Int) ≤ (c : Int) := by omega
              have hx6 : (M.length : Int) ≤ (c : Int) := by omega
              by_cases hmcap : m < c
              · go_wp2_with fail
                go_quiet (fail)
                go_wp2_with fail
                go_quiet (fail)
                go_wp2_with (at_builtin; refine wpList_append_own _ rfl (.tmp 46) (.tmp 49) 27 rfl wr.heap.size 3 i0 (Value.int .i64 0) 1 8 Tryz.underlying27 hi hz0 hz1 hz2 rfl (by decide) (.slice (some ⟨wr.heap.size, 0, none⟩) 0 0) 0 [] rfl (World.ownsRow_lit (wr.drewN _) #[] 0 (Nat.le_refl _) (by simp) rfl) ⟨g, m, none⟩ (M.length - m) (c - m) ((M.map (Value.int .i64)).drop m) rfl (by simp; try omega) (news_of_owns hown (Below.heap_alloc (wr.drewN _) _ g hg1) m) (int_cells M m) (by unfold maxLen; omega) (by omega) (by simp) ?_; intro v2 w2 hown2 hgrow2 hnil; obtain ⟨r, cr, rfl, hr0⟩ := owns_open hown2 (by intro h; have := (hnil.1 h).1; cases this))
                clear hnil
                have hown3 : w2.ownsRow wr.heap.size 3 1 (.slice (some ⟨r, 0, none⟩) (M.length - m) cr) (M.length - m) ((M.map (Value.int .i64)).drop m) := by simpa using hown2
                clear hown2
                have hO2 := owns_take (owns_block hown ((hgrow2.block g (by simp; omega) (by simp [Value.ownBlock]; omega)).trans (Below.heap_alloc (wr.drewN _) _ g hg1))) hm
                have hb2 := Below.grown ((below_drewN hbel _).alloc hbel.size _) hgrow2 (by have := hbel.size; simp; omega) (fun q hq => by simp [Value.ownBlock] at hq; have := hbel.size; omega)
                clear hgrow2
                have hw2 := (owns_facts hown3).2.1
                have hsz2 := hb2.size
                have hb2a := fun o => (hb2.alloc hsz2 o).drew
                have hgr : g ≠ r := by omega
                have hg2 := (owns_facts hO2).2.1
                have HE := Lib.hid (HN.out.trans (ins_at x M m HLT.out HG.out hm))
                have HV : Hid ((M.take m ++ x :: M.drop m).map (Value.int .i64) = ((M.map (Value.int .i64)).take m ++ [.int .i64 x]) ++ ((M.map (Value.int .i64)).drop m).drop 0) := Lib.hid (by simp [List.map_take, List.map_drop])
                have HLn : Hid ((sortL (L.take (k + 1))).length = m + 1 + (M.length - m)) := Lib.hid (by rw [HE.out]; simp; try omega)
                go_region_held3 (fun w' => w'.cell? ⟨b, off + k, none⟩ = some (.int .i64 x))
                  (first
                    | exact (hb4.cell (p := ⟨b, off + k, none⟩) hbs).trans hcell
                    | exact (hb3.cell (p := ⟨b, off + k, none⟩) hbs).trans hcell
                    | exact (hb2.cell (p := ⟨b, off + k, none⟩) hbs).trans hcell
                    | exact ((hb2a _).cell (p := ⟨b, off + k, none⟩) hbs).trans hcell
                    | go_keep)
                  (first
                    | (refine step_append_some _ (by rfl) (.tmp 53) (.tmp 58) 27 (by rfl) w.heap.size 3 i0 (Value.int .i64 0) 1 8 Tryz.underlying27 hi hz0 hz1 hz2 rfl (by decide) (.slice (some ⟨g, 0, none⟩) m c) m ((M.map (Value.int .i64)).take m) (by rfl) (owns_block hO2 (Below.heap_alloc w2 _ g hg2)) ⟨w2.heap.size, 0, none⟩ 1 1 [.int .i64 x] (by rfl) (by rfl) (World.news_of_block (cs := #[.int .i64 x]) (t := 3) (fr := (0, 0)) (heap_alloc_new w2 _)) (by simp [Value.oneCell']) (by omega) (by unfold maxLen; omega) (by omega) (by simp; omega) ?_; intro g1 c1 w1 ho1 hgr1 hat1 hlt1
                       have hb3 := Below.grown (a := w) (B := w.heap.size) (by first | exact hb2.alloc (by omega) _ | exact (hb2.alloc (by omega) _).drew) hgr1 (by simp; omega) (fun q hq => by simp [Value.ownBlock] at hq; omega)
                       have hR1 := owns_block hown3 ((hgr1.block r (by simp; omega) (by simp [Value.ownBlock]; omega)).trans (Below.heap_alloc w2 _ r hw2))
                       have hsz3 := hb3.size
                       have hg1b := (owns_facts ho1).1)
                    | (refine step_append_some _ (by rfl) (.tmp 59) (.tmp 60) 27 (by rfl) w.heap.size 3 i0 (Value.int .i64 0) 1 8 Tryz.underlying27 hi hz0 hz1 hz2 rfl (by decide) _ _ _ (by rfl) ho1 ⟨r, 0, none⟩ (M.length - m) cr (((M.map (Value.int .i64)).drop m).drop 0) (by rfl) (by simp) (news_of_owns hR1 rfl 0) (int_cells M m) (by omega) (by unfold maxLen; omega) (by omega) (by omega) ?_; intro g2 c2 w4 ho2 hgr2 hat2 hlt2
                       have hb4 := Below.grown (a := w) (B := w.heap.size) (by first | exact hb3 | exact hb3.drew) hgr2 (by first | omega | (simp; omega)) (fun q hq => by simp [Value.ownBlock] at hq; omega)))
                go_wp2_with fail
                go_roundw
                case rel => exact ⟨k + 1, g2, c2, by omega, by go_num, by rw [HLn.out]; try (first | rfl | simp), by rw [HLn.out, HE.out, HV.out]; exact ho2, hb4⟩
                case measure => simp [intOf]; omega
              · have hml := Lib.hid (show M.length = m by omega)
                obtain rfl : c = m := by omega
                go_wp2_with fail
                go_quiet (fail)
                go_wp2_with fail
                go_quiet (fail)
                go_wp2_with (at_builtin; refine wpList_append_own _ rfl (.tmp 46) (.tmp 49) 27 rfl wr.heap.size 3 i0 (Value.int .i64 0) 1 8 Tryz.underlying27 hi hz0 hz1 hz2 rfl (by decide) (.slice (some ⟨wr.heap.size, 0, none⟩) 0 0) 0 [] rfl (World.ownsRow_lit (wr.drewN _) #[] 0 (Nat.le_refl _) (by simp) rfl) _ _ _ ((M.map (Value.int .i64)).drop c) rfl (by simp; try omega) (by intro j u h; rw [List.drop_eq_nil_of_le (by simp; omega)] at h; simp at h) (int_cells M c) (by unfold maxLen; omega) (by omega) (by simp) ?_; intro v2 w2 hown2 hgrow2 hnil; obtain ⟨r, cr, rfl, hr0⟩ := owns_open hown2 (by intro h; have := (hnil.1 h).1; cases this))
                clear hnil
                have hown3 : w2.ownsRow wr.heap.size 3 1 (.slice (some ⟨r, 0, none⟩) 0 cr) 0 ((M.map (Value.int .i64)).drop c) := by simpa using hown2
                clear hown2
                have hO2 := owns_take (owns_block hown ((hgrow2.block g (by simp; omega) (by simp [Value.ownBlock]; omega)).trans (Below.heap_alloc (wr.drewN _) _ g hg1))) hm
                have hb2 := Below.grown ((below_drewN hbel _).alloc hbel.size _) hgrow2 (by have := hbel.size; simp; omega) (fun q hq => by simp [Value.ownBlock] at hq; have := hbel.size; omega)
                clear hgrow2
                have hw2 := (owns_facts hown3).2.1
                have hsz2 := hb2.size
                have hb2a := fun o => (hb2.alloc hsz2 o).drew
                have hgr : g ≠ r := by omega
                have hg2 := (owns_facts hO2).2.1
                have HE := Lib.hid (HN.out.trans (ins_at x M c HLT.out HG.out hm))
                have HV : Hid ((M.take c ++ x :: M.drop c).map (Value.int .i64) = ((M.map (Value.int .i64)).take c ++ [.int .i64 x]) ++ ((M.map (Value.int .i64)).drop c).drop 0) := Lib.hid (by simp [List.map_take, List.map_drop])
                have HLn : Hid ((sortL (L.take (k + 1))).length = c + 1 + 0) := Lib.hid (by rw [HE.out]; simp; have := hml.out; omega)
                go_region_held3 (fun w' => w'.cell? ⟨b, off + k, none⟩ = some (.int .i64 x))
                  (first
                    | exact (hb4.cell (p := ⟨b, off + k, none⟩) hbs).trans hcell
                    | exact (hb3.cell (p := ⟨b, off + k, none⟩) hbs).trans hcell
                    | exact (hb2.cell (p := ⟨b, off + k, none⟩) hbs).trans hcell
                    | exact ((hb2a _).cell (p := ⟨b, off + k, none⟩) hbs).trans hcell
                    | go_keep)
                  (first
                    | (refine step_append_some _ (by rfl) (.tmp 53) (.tmp 58) 27 (by rfl) w.heap.size 3 i0 (Value.int .i64 0) 1 8 Tryz.underlying27 hi hz0 hz1 hz2 rfl (by decide) (.slice (some ⟨g, 0, none⟩) c c) c ((M.map (Value.int .i64)).take c) (by rfl) (owns_block hO2 (Below.heap_alloc w2 _ g hg2)) ⟨w2.heap.size, 0, none⟩ 1 1 [.int .i64 x] (by rfl) (by rfl) (World.news_of_block (cs := #[.int .i64 x]) (t := 3) (fr := (0, 0)) (heap_alloc_new w2 _)) (by simp [Value.oneCell']) (by omega) (by unfold maxLen; omega) (by omega) (by simp; omega) ?_; intro g1 c1 w1 ho1 hgr1 hat1 hlt1
                       have hb3 := Below.grown (a := w) (B := w.heap.size) (by first | exact hb2.alloc (by omega) _ | exact (hb2.alloc (by omega) _).drew) hgr1 (by simp; omega) (fun q hq => by simp [Value.ownBlock] at hq; omega)
                       have hR1 := owns_block hown3 ((hgr1.block r (by simp; omega) (by simp [Value.ownBlock]; omega)).trans (Below.heap_alloc w2 _ r hw2))
                       have hsz3 := hb3.size
                       have hg1b := (owns_facts ho1).1)
                    | (refine step_append_some _ (by rfl) (.tmp 59) (.tmp 60) 27 (by rfl) w.heap.size 3 i0 (Value.int .i64 0) 1 8 Tryz.underlying27 hi hz0 hz1 hz2 rfl (by decide) _ _ _ (by rfl) ho1 ⟨r, 0, none⟩ 0 cr (((M.map (Value.int .i64)).drop c).drop 0) (by rfl) (by simp; have := hml.out; omega) (news_of_owns hR1 rfl 0) (int_cells M c) (by omega) (by unfold maxLen; omega) (by omega) (by omega) ?_; intro g2 c2 w4 ho2 hgr2 hat2 hlt2
                       have hb4 := Below.grown (a := w) (B := w.heap.size) (by first | exact hb3 | exact hb3.drew) hgr2 (by first | omega | (simp; omega)) (fun q hq => by simp [Value.ownBlock] at hq; omega)))
                go_wp2_with fail
                go_roundw
                case rel => exact ⟨k + 1, g2, c2, by omega, by go_num, by rw [HLn.out]; try (first | rfl | simp), by rw [HLn.out, HE.out, HV.out]; exact ho2, hb4⟩
                case measure => simp [intOf]; omega
        · obtain rfl : m = 0 := by omega
          go_wp2_with fail
          go_quiet (fail)
          go_wp2_with fail
          go_quiet (fail)
          go_wp2_with (at_builtin; refine wpList_append_own _ rfl (.tmp 46) (.tmp 49) 27 rfl wr.heap.size 3 i0 (Value.int .i64 0) 1 8 Tryz.underlying27 hi hz0 hz1 hz2 rfl (by decide) (.slice (some ⟨wr.heap.size, 0, none⟩) 0 0) 0 [] rfl (World.ownsRow_lit (wr.drewN _) #[] 0 (Nat.le_refl _) (by simp) rfl) ⟨g, 0, none⟩ M.length c ((M.map (Value.int .i64)).drop 0) rfl (by simp; try omega) (news_of_owns hown (Below.heap_alloc (wr.drewN _) _ g hg1) 0) (int_cells M 0) (by unfold maxLen; omega) (by omega) (by simp) ?_; intro v2 w2 hown2 hgrow2 hnil; obtain ⟨r, cr, rfl, hr0⟩ := owns_open hown2 (by intro h; have := (hnil.1 h).1; cases this))
          clear hnil
          have hown3 : w2.ownsRow wr.heap.size 3 1 (.slice (some ⟨r, 0, none⟩) (M.length) cr) (M.length) ((M.map (Value.int .i64)).drop 0) := by simpa using hown2
          clear hown2
          have hO2 := owns_take (owns_block hown ((hgrow2.block g (by simp; omega) (by simp [Value.ownBlock]; omega)).trans (Below.heap_alloc (wr.drewN _) _ g hg1))) (Nat.zero_le M.length)
          have hb2 := Below.grown ((below_drewN hbel _).alloc hbel.size _) hgrow2 (by have := hbel.size; simp; omega) (fun q hq => by simp [Value.ownBlock] at hq; have := hbel.size; omega)
          clear hgrow2
          have hw2 := (owns_facts hown3).2.1
          have hsz2 := hb2.size
          have hb2a := fun o => (hb2.alloc hsz2 o).drew
          have hgr : g ≠ r := by omega
          have hg2 := (owns_facts hO2).2.1
          have HE := Lib.hid (HN.out.trans (ins_at x M 0 (by simp) HG.out (Nat.zero_le _)))
          have HV : Hid ((M.take 0 ++ x :: M.drop 0).map (Value.int .i64) = ((M.map (Value.int .i64)).take 0 ++ [.int .i64 x]) ++ ((M.map (Value.int .i64)).drop 0).drop 0) := Lib.hid (by simp)
          have HLn : Hid ((sortL (L.take (k + 1))).length = 0 + 1 + (M.length)) := Lib.hid (by rw [HE.out]; simp; try omega)
          go_region_held3 (fun w' => w'.cell? ⟨b, off + k, none⟩ = some (.int .i64 x))
            (first
              | exact (hb4.cell (p := ⟨b, off + k, none⟩) hbs).trans hcell
              | exact (hb3.cell (p := ⟨b, off + k, none⟩) hbs).trans hcell
              | exact (hb2.cell (p := ⟨b, off + k, none⟩) hbs).trans hcell
              | exact ((hb2a _).cell (p := ⟨b, off + k, none⟩) hbs).trans hcell
              | go_keep)
            (first
              | (refine step_append_some _ (by rfl) (.tmp 53) (.tmp 58) 27 (by rfl) w.heap.size 3 i0 (Value.int .i64 0) 1 8 Tryz.underlying27 hi hz0 hz1 hz2 rfl (by decide) (.slice (some ⟨g, 0, none⟩) 0 c) 0 ((M.map (Value.int .i64)).take 0) (by rfl) (owns_block hO2 (Below.heap_alloc w2 _ g hg2)) ⟨w2.heap.size, 0, none⟩ 1 1 [.int .i64 x] (by rfl) (by rfl) (World.news_of_block (cs := #[.int .i64 x]) (t := 3) (fr := (0, 0)) (heap_alloc_new w2 _)) (by simp [Value.oneCell']) (by omega) (by unfold maxLen; omega) (by omega) (by simp; omega) ?_; intro g1 c1 w1 ho1 hgr1 hat1 hlt1
                 have hb3 := Below.grown (a := w) (B := w.heap.size) (by first | exact hb2.alloc (by omega) _ | exact (hb2.alloc (by omega) _).drew) hgr1 (by simp; omega) (fun q hq => by simp [Value.ownBlock] at hq; omega)
                 have hR1 := owns_block hown3 ((hgr1.block r (by simp; omega) (by simp [Value.ownBlock]; omega)).trans (Below.heap_alloc w2 _ r hw2))
                 have hsz3 := hb3.size
                 have hg1b := (owns_facts ho1).1)
              | (refine step_append_some _ (by rfl) (.tmp 59) (.tmp 60) 27 (by rfl) w.heap.size 3 i0 (Value.int .i64 0) 1 8 Tryz.underlying27 hi hz0 hz1 hz2 rfl (by decide) _ _ _ (by rfl) ho1 ⟨r, 0, none⟩ (M.length) cr (((M.map (Value.int .i64)).drop 0).drop 0) (by rfl) (by simp) (news_of_owns hR1 rfl 0) (int_cells M 0) (by omega) (by unfold maxLen; omega) (by omega) (by omega) ?_; intro g2 c2 w4 ho2 hgr2 hat2 hlt2
                 have hb4 := Below.grown (a := w) (B := w.heap.size) (by first | exact hb3 | exact hb3.drew) hgr2 (by first | omega | (simp; omega)) (fun q hq => by simp [Value.ownBlock] at hq; omega)))
          go_wp2_with fail
          go_roundw
          case rel => exact ⟨k + 1, g2, c2, by omega, by go_num, by rw [HLn.out]; try (first | rfl | simp), by rw [HLn.out, HE.out, HV.out]; exact ho2, hb4⟩
          case measure => simp [intOf]; omega
    · obtain rfl : k = L.length := by omega
      have HT := Lib.hid (List.take_of_length_le (Nat.le_refl L.length))
      clear hr
      go_wp2_with fail
      go_ret
      rw [HT.out] at hown
      exact ⟨g, c, by rw [HT.out]; rfl, hown, hbel⟩
end Go.Proofs.YtjahmlaocgcjpaaGreatDoor
