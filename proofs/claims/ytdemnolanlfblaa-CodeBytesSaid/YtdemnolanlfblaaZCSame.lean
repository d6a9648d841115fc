import Derived.Test.YtdemnolanlfblaaZCReadB
set_option linter.all false
namespace Go.Proofs.Ytdemnolanlfblaa
section
open Go.RowKit
set_option maxRecDepth 100000 in
set_option maxHeartbeats 2000000 in
theorem ints_yes (a b : Option Addr) (ca cb : Nat) (l : List Int) (C : Nat) (w : World) (ha : IntsIn C w (.slice a l.length ca) l) (hb : IntsIn C w (.slice b l.length cb) l) (hl : l.length ≤ 1000000) :
    Calls Try.prog 22 #[.slice a l.length ca, .slice b l.length cb] w fun e w' => e = .returned (.bool true) ∧ ∃ n, w' = w.drewN n := by
  have HA := hide ha
  have HB := hide hb
  clear ha hb
  go_enter Try.func22, Try.ntmps22
  go_wp2
  go_loopg [5] l.length (fun r e5 wr => ∃ i n : Nat, i ≤ l.length ∧ r = l.length - i ∧ e5 = .int .i64 (i : Int) ∧ wr = w.drewN n)
  case atStart => exact ⟨0, 0, Nat.zero_le _, rfl, rfl, rfl⟩
  case round =>
    obtain ⟨i, n, hi, rfl, rfl, rfl⟩ := hrel
    by_cases hlt : i < l.length
    · have hltz : (i : Int) < (l.length : Int) := by omega
      obtain ⟨x, hx⟩ : ∃ x, l[i]? = some x := ⟨_, List.getElem?_eq_getElem hlt⟩
      obtain ⟨ab, aq, rfl, _, a0⟩ := ints_at (unhide HA) hx
      obtain ⟨bb, bq, rfl, _, b0⟩ := ints_at (unhide HB) hx
      clear hx
      go_wp2
      go_quiet (fail)
      go_wp2
      go_roundg (l.length - (i + 1))
      case measure => omega
      case rel => exact ⟨i + 1, _, by omega, rfl, by go_num, rfl⟩
    · have hltz : ¬ (i : Int) < (l.length : Int) := by omega
      go_wp2
      go_ret
      exact ⟨rfl, _, rfl⟩
theorem two_below (w : World) (a b : Obj) : Below w.heap.size w ((w.alloc a).alloc b) := ((Below.refl _ w).alloc (Nat.le_refl _) a).alloc (by simp) b
structure Lens (c : CodeD) : Prop where
  ops : c.ops.length ≤ 1000000
  fns : c.fns.length ≤ 1000000
  kinds : c.kinds.length ≤ 1000000
  takes : ∀ f ∈ c.fns, f.takes.length ≤ 1000000
  lists : ∀ l ∈ c.kinds, l.length ≤ 1000000
theorem lens_check {c : CodeD} (h : CheckIs c 0) : Lens c := by
  rcases h with ⟨h, _⟩ | ⟨h, _⟩ | ⟨h, _⟩ | ⟨_, ⟨h1, h2, h3, _⟩, hr, _⟩
  · simp at h
  · simp at h
  · simp at h
  · exact ⟨by omega, by omega, by omega, fun f hf => by have := takes_few (hr.fns f hf); omega, fun l hl => by have := (hr.kinds l hl).size; omega⟩
theorem lens_nil : Lens ⟨[], [], []⟩ := ⟨by simp, by simp, by simp, by simp, by simp⟩
theorem lens_read {bs : List Nat} {c : CodeD} {e : Int} (h : ReadIs bs c e) : Lens c := by
  unfold ReadIs at h
  split at h
  · rw [h.2]; exact lens_nil
  · rw [h.2]; exact lens_nil
  · by_cases he : e = 0
    · rw [he] at h
      rw [h.2, if_pos rfl]
      exact lens_check h.1
    · rw [h.2, if_neg he]; exact lens_nil
def SPost (w : World) (e : Ending) (w' : World) : Prop := e = .returned (.bool true) ∧ Below w.heap.size w w'
set_option maxRecDepth 100000 in
set_option maxHeartbeats 8000000 in
theorem same_yes (a1 a2 a3 b1 b2 b3 : Option Addr) (c1 c2 c3 d1 d2 d3 : Nat) (c : CodeD) (w : World) (C : Nat) (hC : C ≤ w.heap.size) (hA : CodeIn C w (.slice a1 c.ops.length c1) (.slice a2 c.fns.length c2) (.slice a3 c.kinds.length c3) c) (hB : CodeIn C w (.slice b1 c.ops.length d1) (.slice b2 c.fns.length d2) (.slice b3 c.kinds.length d3) c) (hl : Lens c) :
    Calls Try.prog 11 #[.agg #[.slice a1 c.ops.length c1, .slice a2 c.fns.length c2, .slice a3 c.kinds.length c3], .agg #[.slice b1 c.ops.length d1, .slice b2 c.fns.length d2, .slice b3 c.kinds.length d3]] w (SPost w) := by
  have n1 := hl.ops
  have n2 := hl.fns
  have n3 := hl.kinds
  have HL := hide hl
  have HA := hide hA
  have HB := hide hB
  clear hA hB hl
  go_enter Try.func11, Try.ntmps11
  go_wp2
  go_loopg [5] c.ops.length (fun r e5 wr => ∃ i : Nat, i ≤ c.ops.length ∧ r = c.ops.length - i ∧ e5 = .int .i64 (i : Int) ∧ wr.heap[w.heap.size]? = some (.cells #[.slice a1 c.ops.length c1, .slice a2 c.fns.length c2, .slice a3 c.kinds.length c3] 26 (0, 0)) ∧ wr.heap[w.heap.size + 1]? = some (.cells #[.slice b1 c.ops.length d1, .slice b2 c.fns.length d2, .slice b3 c.kinds.length d3] 26 (0, 0)) ∧ Below w.heap.size w wr)
  case atStart => exact ⟨0, Nat.zero_le _, rfl, rfl, two_new1 w _ _, two_new2 w _ _, ((Below.refl _ w).alloc (Nat.le_refl _) _).alloc (by simp) _⟩
  case round =>
    obtain ⟨i, hi, rfl, rfl, h1, h2, hb⟩ := hrel
    have x1 := cells3 h1
    have x2 := cells3 h2
    have H1 := hide h1
    have H2 := hide h2
    have HBB := hide hb
    clear h1 h2 hb
    by_cases hlt : i < c.ops.length
    · have hltz : (i : Int) < (c.ops.length : Int) := by omega
      obtain ⟨o, hoi⟩ : ∃ o, c.ops[i]? = some o := ⟨_, List.getElem?_eq_getElem hlt⟩
      obtain ⟨ob, oq, rfl, hob, hv⟩ := ops_at ((unhide HA).ops.same (Same.of_below (unhide HBB) hC)) hoi
      obtain ⟨pb, pq, rfl, hpb, hu⟩ := ops_at ((unhide HB).ops.same (Same.of_below (unhide HBB) hC)) hoi
      clear hoi
      go_wp2
      go_quiet (fail)
      go_wp2
      go_roundg (c.ops.length - (i + 1))
      case measure => omega
      case rel => exact ⟨i + 1, by omega, rfl, by go_num, bx_below (unhide H1) (drewN_below _ _), bx_below (unhide H2) (drewN_below _ _), (unhide HBB).trans ((drewN_below _ _).mono (unhide HBB).size)⟩
    · have hltz : ¬ (i : Int) < (c.ops.length : Int) := by omega
      go_wp2
      obtain ⟨wo, rfl⟩ : ∃ x, x = wr := ⟨wr, rfl⟩
      go_loopg [6] c.fns.length (fun r e6 wr => ∃ i : Nat, i ≤ c.fns.length ∧ r = c.fns.length - i ∧ e6 = .int .i64 (i : Int) ∧ wr.heap[w.heap.size]? = some (.cells #[.slice a1 c.ops.length c1, .slice a2 c.fns.length c2, .slice a3 c.kinds.length c3] 26 (0, 0)) ∧ wr.heap[w.heap.size + 1]? = some (.cells #[.slice b1 c.ops.length d1, .slice b2 c.fns.length d2, .slice b3 c.kinds.length d3] 26 (0, 0)) ∧ Below w.heap.size w wr)
      case atStart => exact ⟨0, Nat.zero_le _, rfl, rfl, unhide H1, unhide H2, unhide HBB⟩
      case round =>
        clear H1 H2 HBB x1 x2 hlt hltz hi
        obtain ⟨i, hi, rfl, rfl, h1, h2, hb⟩ := hrel
        have x1 := cells3 h1
        have x2 := cells3 h2
        have H1 := hide h1
        have H2 := hide h2
        have HBB := hide hb
        clear h1 h2 hb
        by_cases hlt : i < c.fns.length
        · have hltz : (i : Int) < (c.fns.length : Int) := by omega
          obtain ⟨f, hfi⟩ : ∃ f, c.fns[i]? = some f := ⟨_, List.getElem?_eq_getElem hlt⟩
          obtain ⟨fb, fq, ta, tc, rfl, hfb, y1, y2, y3, y4, y5⟩ := fns_at ((unhide HA).fns.same (Same.of_below (unhide HBB) hC)) hfi
          obtain ⟨gb, gq, ua, uc, rfl, hgb, z1, z2, z3, z4, z5⟩ := fns_at ((unhide HB).fns.same (Same.of_below (unhide HBB) hC)) hfi
          have HY5 := hide y5
          have HZ5 := hide z5
          have hbs := (unhide HBB).size
          have hz1 : w.heap.size + 1 < wr.heap.size := (Array.getElem?_eq_some_iff.1 (unhide H2)).1
          have hgz : gb < wr.heap.size := by omega
          have hfz : fb < wr.heap.size := by omega
          have htk := (unhide HL).takes f (List.mem_of_getElem? hfi)
          clear y5 z5 hfi
          go_wp2_with (go_at_call 22; refine (ints_yes ta ua tc uc f.takes C _ ((unhide HY5).same (Same.of_below (two_below _ _ _) (by omega))) ((unhide HZ5).same (Same.of_below (two_below _ _ _) (by omega))) htk).mono ?_; rintro e w9 ⟨rfl, n9, rfl⟩)
          go_roundg (c.fns.length - (i + 1))
          case measure => omega
          case rel => exact ⟨i + 1, by omega, rfl, by go_num, bx_below (bx_below (unhide H1) (two_below _ _ _)) (drewN_below _ _), bx_below (bx_below (unhide H2) (two_below _ _ _)) (drewN_below _ _), ((unhide HBB).trans ((two_below _ _ _).mono hbs)).trans ((drewN_below _ _).mono (Nat.le_trans hbs (two_below _ _ _).size))⟩
        · have hltz : ¬ (i : Int) < (c.fns.length : Int) := by omega
          go_wp2
          obtain ⟨wp, rfl⟩ : ∃ x, x = wr := ⟨wr, rfl⟩
          go_loopg [10] c.kinds.length (fun r e10 wr => ∃ i : Nat, i ≤ c.kinds.length ∧ r = c.kinds.length - i ∧ e10 = .int .i64 (i : Int) ∧ wr.heap[w.heap.size]? = some (.cells #[.slice a1 c.ops.length c1, .slice a2 c.fns.length c2, .slice a3 c.kinds.length c3] 26 (0, 0)) ∧ wr.heap[w.heap.size + 1]? = some (.cells #[.slice b1 c.ops.length d1, .slice b2 c.fns.length d2, .slice b3 c.kinds.length d3] 26 (0, 0)) ∧ Below w.heap.size w wr)
          case atStart => exact ⟨0, Nat.zero_le _, rfl, rfl, unhide H1, unhide H2, unhide HBB⟩
          case round =>
            clear H1 H2 HBB x1 x2 hlt hltz hi
            obtain ⟨i, hi, rfl, rfl, h1, h2, hb⟩ := hrel
            have x1 := cells3 h1
            have x2 := cells3 h2
            have H1 := hide h1
            have H2 := hide h2
            have HBB := hide hb
            clear h1 h2 hb
            by_cases hlt : i < c.kinds.length
            · have hltz : (i : Int) < (c.kinds.length : Int) := by omega
              obtain ⟨l, hli⟩ : ∃ l, c.kinds[i]? = some l := ⟨_, List.getElem?_eq_getElem hlt⟩
              obtain ⟨fb, fq, ta, tc, rfl, hfb, y4, y5⟩ := kinds_at ((unhide HA).kinds.same (Same.of_below (unhide HBB) hC)) hli
              obtain ⟨gb, gq, ua, uc, rfl, hgb, z4, z5⟩ := kinds_at ((unhide HB).kinds.same (Same.of_below (unhide HBB) hC)) hli
              have hbs := (unhide HBB).size
              have htk := (unhide HL).lists l (List.mem_of_getElem? hli)
              have HC : Hid (∀ n, Calls Try.prog 22 #[.slice ta l.length tc, .slice ua l.length uc] (wr.drewN n) fun e w' => e = .returned (.bool true) ∧ ∃ m, w' = (wr.drewN n).drewN m) := fun n => ints_yes ta ua tc uc l C _ (y5.same (Same.of_below (drewN_below n wr) (by omega))) (z5.same (Same.of_below (drewN_below n wr) (by omega))) htk
              clear y5 z5 hli
              go_wp2
              go_quiet ((go_at_call 22; exact Calls.quiet_of (unhide HC _)))
              go_wp2
              go_roundg (c.kinds.length - (i + 1))
              case measure => omega
              case rel => exact ⟨i + 1, by omega, rfl, by go_num, bx_below (unhide H1) (drewN_below _ _), bx_below (unhide H2) (drewN_below _ _), (unhide HBB).trans ((drewN_below _ _).mono (unhide HBB).size)⟩
            · have hltz : ¬ (i : Int) < (c.kinds.length : Int) := by omega
              go_wp2
              go_ret
              exact ⟨rfl, unhide HBB⟩
end
end Go.Proofs.Ytdemnolanlfblaa
