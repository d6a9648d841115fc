import Derived.Test.YtdemnolanlfblaaZCForm
set_option linter.all false
namespace Go.Proofs.Ytdemnolanlfblaa
section
open Go.RowKit
def CPost (c : CodeD) (w : World) (e : Ending) (w' : World) : Prop := ∃ n : Int, e = .returned (.int .i64 n) ∧ CheckIs c n ∧ Below w.heap.size w w'
theorem kinds_at {C : Nat} {w : World} {a1 : Option Addr} {N c1 : Nat} {l : List (List Int)} (h : KindsIn C w (.slice a1 N c1) l) {i : Nat} {x : List Int} (hx : l[i]? = some x) : ∃ b q ta tc, a1 = some ⟨b, q, none⟩ ∧ b < C ∧ w.cell? ⟨b, q + i, none⟩ = some (.slice ta x.length tc) ∧ IntsIn C w (.slice ta x.length tc) x := by
  obtain ⟨a, cap, hv, h⟩ := h
  simp only [Value.slice.injEq] at hv
  obtain ⟨rfl, rfl, rfl⟩ := hv
  obtain ⟨b, q, ha, hb, hc⟩ := h (by rintro rfl; simp at hx)
  obtain ⟨tv, h4, h5⟩ := hc i x hx
  obtain ⟨ta, tc, rfl, h6⟩ := h5
  exact ⟨b, q, ta, tc, ha, hb, h4, ta, tc, rfl, h6⟩
theorem bx_below {wr w' : World} {k : Nat} {o : Obj} (h : wr.heap[k]? = some o) (hb : Below wr.heap.size wr w') : w'.heap[k]? = some o := by
  rw [hb.block k (Array.getElem?_eq_some_iff.1 h).1]; exact h
theorem inB_yes {x l h : Int} (e : inB x l h = true) : l ≤ x ∧ x ≤ h := by simpa [inB] using e
theorem inB_no {x l h : Int} (e : inB x l h = false) : ¬ (l ≤ x ∧ x ≤ h) := by simpa [inB] using e
theorem inB_of {x l h : Int} (e : l ≤ x ∧ x ≤ h) : inB x l h = true := by simpa [inB] using e
theorem range_no {c : CodeD} (hs : SizeOk c) (h : ¬ RangeOk c) : CheckIs c 11 := Or.inr (Or.inl ⟨rfl, hs, h⟩)
set_option maxRecDepth 100000 in
set_option maxHeartbeats 8000000 in
theorem check16_any (a1 a2 a3 : Option Addr) (c1 c2 c3 : Nat) (c : CodeD) (w : World) (C : Nat) (hC : C ≤ w.heap.size) (hO : OpsIn C w (.slice a1 c.ops.length c1) c.ops) (hF : FnsIn C w (.slice a2 c.fns.length c2) c.fns) (hK : KindsIn C w (.slice a3 c.kinds.length c3) c.kinds) :
    Calls Try.prog 7 #[.agg #[.slice a1 c.ops.length c1, .slice a2 c.fns.length c2, .slice a3 c.kinds.length c3]] w (CPost c w) := by
  have HO := hide hO
  have HF := hide hF
  have HK := hide hK
  have HB1 : Hid (∀ o, Below w.heap.size w (w.alloc o)) := fun o => (Below.refl _ _).alloc (Nat.le_refl _) o
  clear hO hF hK
  by_cases h1 : 8000 < c.ops.length
  · have h1z : (8000 : Int) < (c.ops.length : Int) := by omega
    have hR : Hid (CheckIs c 1) := Or.inl ⟨rfl, fun h => by have := h.1; omega⟩
    clear h1
    go_enter Try.func7, Try.ntmps7
    go_wp2
    go_ret
    exact ⟨1, rfl, unhide hR, unhide HB1 _⟩
  have h1z : ¬ (8000 : Int) < (c.ops.length : Int) := by omega
  by_cases h2 : 1200 < c.fns.length
  · have h2z : (1200 : Int) < (c.fns.length : Int) := by omega
    have hR : Hid (CheckIs c 1) := Or.inl ⟨rfl, fun h => by have := h.2.1; omega⟩
    clear h2
    go_enter Try.func7, Try.ntmps7
    go_wp2
    go_ret
    exact ⟨1, rfl, unhide hR, unhide HB1 _⟩
  have h2z : ¬ (1200 : Int) < (c.fns.length : Int) := by omega
  by_cases h3 : 1200 < c.kinds.length
  · have h3z : (1200 : Int) < (c.kinds.length : Int) := by omega
    have hR : Hid (CheckIs c 1) := Or.inl ⟨rfl, fun h => by have := h.2.2.1; omega⟩
    clear h3
    go_enter Try.func7, Try.ntmps7
    go_wp2
    go_ret
    exact ⟨1, rfl, unhide hR, unhide HB1 _⟩
  have h3z : ¬ (1200 : Int) < (c.kinds.length : Int) := by omega
  by_cases h4 : c.fns.length = 0
  · have h4z : ((c.fns.length : Int) == 0) = true := by simp [h4]
    have hR : Hid (CheckIs c 1) := Or.inl ⟨rfl, fun h => h.2.2.2 h4⟩
    clear h4
    go_enter Try.func7, Try.ntmps7
    go_wp2
    go_ret
    exact ⟨1, rfl, unhide hR, unhide HB1 _⟩
  have h4z : ((c.fns.length : Int) == 0) = false := ne_b (by omega)
  have HSZ : Hid (SizeOk c) := ⟨by omega, by omega, by omega, h4⟩
  clear h4
  go_enter Try.func7, Try.ntmps7
  go_wp2
  go_loopg [3] c.fns.length (fun r iv wr => ∃ i : Nat, i ≤ c.fns.length ∧ r = c.fns.length - i ∧ iv = .int .i64 (i : Int) ∧ wr.heap[w.heap.size]? = some (.cells #[.slice a1 c.ops.length c1, .slice a2 c.fns.length c2, .slice a3 c.kinds.length c3] 26 (0, 0)) ∧ Below w.heap.size w wr ∧ ∀ f ∈ c.fns.take i, FnOk c f)
  case atStart => exact ⟨0, Nat.zero_le _, rfl, rfl, heap_alloc_new w _, unhide HB1 _, by simp⟩
  case round =>
    obtain ⟨i, hi, rfl, rfl, hbx, hb, hall⟩ := hrel
    obtain ⟨y0, y1, y2⟩ := cells3 hbx
    have hlt0 : w.heap.size < wr.heap.size := (Array.getElem?_eq_some_iff.1 hbx).1
    have HBX := hide hbx
    have HB := hide hb
    have HALL := hide hall
    clear hbx hb hall
    by_cases hlt : i < c.fns.length
    · have hltz : (i : Int) < (c.fns.length : Int) := by omega
      obtain ⟨f, hfi⟩ : ∃ f, c.fns[i]? = some f := ⟨_, List.getElem?_eq_getElem hlt⟩
      obtain ⟨fb, fq, ta, tc, rfl, hfb, v0, v1, v2, v3, v4⟩ := fns_at ((unhide HF).same (Same.of_below (unhide HB) hC)) hfi
      have HFI := hide hfi
      have HV4 := hide v4
      have hfbz : fb < wr.heap.size := by omega
      clear hfi v4
      by_cases s1 : inB f.slots 0 1200 = false
      · have hR : Hid (CheckIs c 11) := range_no (unhide HSZ) (fun h => by have h9 := (h.fns f (List.mem_of_getElem? (unhide HFI))); exact inB_no s1 h9.slots)
        go_wp2_with (go_at_call 16; refine (within_any _ _ _ _).mono ?_; rintro e w9 ⟨rfl, rfl⟩)
        go_ret
        exact ⟨11, rfl, unhide hR, (unhide HB).alloc (unhide HB).size _⟩
      replace s1 : inB f.slots 0 1200 = true := by simpa using s1
      by_cases s2 : inB f.params 0 f.slots = false
      · have hR : Hid (CheckIs c 11) := range_no (unhide HSZ) (fun h => by have h9 := (h.fns f (List.mem_of_getElem? (unhide HFI))); exact inB_no s2 h9.params)
        go_wp2_with (go_at_call 16; refine (within_any _ _ _ _).mono ?_; rintro e w9 ⟨rfl, rfl⟩)
        go_ret
        exact ⟨11, rfl, unhide hR, (unhide HB).alloc (unhide HB).size _⟩
      replace s2 : inB f.params 0 f.slots = true := by simpa using s2
      by_cases s3 : inB f.frm 0 ((c.ops.length : Int) - 1) = false
      · have hR : Hid (CheckIs c 11) := range_no (unhide HSZ) (fun h => by have h9 := (h.fns f (List.mem_of_getElem? (unhide HFI))); exact inB_no s3 h9.frm)
        go_wp2_with (go_at_call 16; refine (within_any _ _ _ _).mono ?_; rintro e w9 ⟨rfl, rfl⟩)
        go_ret
        exact ⟨11, rfl, unhide hR, (unhide HB).alloc (unhide HB).size _⟩
      replace s3 : inB f.frm 0 ((c.ops.length : Int) - 1) = true := by simpa using s3
      have u1 := inB_yes s1
      have u2 := inB_yes s2
      have u3 := inB_yes s3
      by_cases s4 : f.slots - f.params < (f.takes.length : Int)
      · have hR : Hid (CheckIs c 11) := range_no (unhide HSZ) (fun h => by have h9 := (h.fns f (List.mem_of_getElem? (unhide HFI))); exact by have := h9.takes; omega)
        go_wp2_with (go_at_call 16; refine (within_any _ _ _ _).mono ?_; rintro e w9 ⟨rfl, rfl⟩)
        go_ret
        exact ⟨11, rfl, unhide hR, (unhide HB).alloc (unhide HB).size _⟩
      obtain ⟨wo, rfl⟩ : ∃ x, x = wr := ⟨wr, rfl⟩
      have hfl : f.takes.length ≤ 1200 := by omega
      go_wp2_with (go_at_call 16; refine (within_any _ _ _ _).mono ?_; rintro e w9 ⟨rfl, rfl⟩)
      go_loopg [8] f.takes.length (fun r jv wr => ∃ j : Nat, j ≤ f.takes.length ∧ r = f.takes.length - j ∧ jv = .int .i64 (j : Int) ∧ wr = wo.alloc (.cells #[.int .i64 f.params, .int .i64 f.slots, .int .i64 f.frm, .slice ta f.takes.length tc] 40) ∧ ∀ t ∈ f.takes.take j, 0 ≤ t ∧ t ≤ 1200)
      case atStart => exact ⟨0, Nat.zero_le _, rfl, rfl, rfl, by simp⟩
      case round =>
        obtain ⟨j, hj, rfl, rfl, rfl, htall⟩ := hrel
        have HTALL := hide htall
        clear htall
        by_cases hjl : j < f.takes.length
        · have hjz : (j : Int) < (f.takes.length : Int) := by omega
          obtain ⟨x, hx⟩ : ∃ x, f.takes[j]? = some x := ⟨_, List.getElem?_eq_getElem hjl⟩
          obtain ⟨tb, tq, rfl, htb, t0⟩ := ints_at (unhide HV4) hx
          have htbz : tb < wo.heap.size := by omega
          have HX := hide hx
          clear hx
          by_cases s5 : inB x 0 1200 = false
          · have hR : Hid (CheckIs c 11) := range_no (unhide HSZ) (fun h => by have h9 := (h.fns f (List.mem_of_getElem? (unhide HFI))); exact inB_no s5 (h9.each x (List.mem_of_getElem? (unhide HX))))
            go_wp2_with (go_at_call 16; refine (within_any _ _ _ _).mono ?_; rintro e w9 ⟨rfl, rfl⟩)
            go_ret
            exact ⟨11, rfl, unhide hR, (unhide HB).alloc (unhide HB).size _⟩
          · replace s5 : inB x 0 1200 = true := by simpa using s5
            have hnx : Hid (∀ t ∈ f.takes.take (j + 1), 0 ≤ t ∧ t ≤ 1200) := by
              intro t ht
              rw [take_snoc' (unhide HX)] at ht
              simp only [List.mem_append, List.mem_singleton] at ht
              rcases ht with ht | rfl
              · exact unhide HTALL t ht
              · exact inB_yes s5
            go_wp2_with (go_at_call 16; refine (within_any _ _ _ _).mono ?_; rintro e w9 ⟨rfl, rfl⟩)
            go_roundg (f.takes.length - (j + 1))
            case measure => omega
            case rel => exact ⟨j + 1, by omega, rfl, by go_num, rfl, unhide hnx⟩
        · have hjz : ¬ (j : Int) < (f.takes.length : Int) := by omega
          have hnx : Hid (∀ g ∈ c.fns.take (i + 1), FnOk c g) := by
            intro g hg
            rw [take_snoc' (unhide HFI)] at hg
            simp only [List.mem_append, List.mem_singleton] at hg
            rcases hg with hg | rfl
            · exact unhide HALL g hg
            · refine ⟨u1, u2, u3, by omega, ?_⟩
              have := unhide HTALL
              rwa [List.take_of_length_le (by omega)] at this
          go_wp2
          go_roundg (c.fns.length - (i + 1))
          case measure => omega
          case rel => exact ⟨i + 1, by omega, rfl, by go_num, bx_below (unhide HBX) ((Below.refl _ _).alloc (Nat.le_refl _) _), (unhide HB).alloc (unhide HB).size _, unhide hnx⟩
    · have hltz : ¬ (i : Int) < (c.fns.length : Int) := by omega
      have HFNS : Hid (∀ f ∈ c.fns, FnOk c f) := by
        have := unhide HALL
        rwa [List.take_of_length_le (by omega)] at this
      clear HALL
      obtain ⟨wo, rfl⟩ : ∃ x, x = wr := ⟨wr, rfl⟩
      go_wp2
      clear y0 y1 y2 hlt hltz hi
      go_loopg [10] c.kinds.length (fun r iv wr => ∃ i : Nat, i ≤ c.kinds.length ∧ r = c.kinds.length - i ∧ iv = .int .i64 (i : Int) ∧ wr.heap[w.heap.size]? = some (.cells #[.slice a1 c.ops.length c1, .slice a2 c.fns.length c2, .slice a3 c.kinds.length c3] 26 (0, 0)) ∧ Below w.heap.size w wr ∧ ∀ l ∈ c.kinds.take i, KindOk c l)
      case atStart => exact ⟨0, Nat.zero_le _, rfl, rfl, unhide HBX, unhide HB, by simp⟩
      case round =>
        clear HBX HB hlt0
        obtain ⟨i, hi, rfl, rfl, hbx, hb, hall⟩ := hrel
        obtain ⟨y0, y1, y2⟩ := cells3 hbx
        have hlt0 : w.heap.size < wr.heap.size := (Array.getElem?_eq_some_iff.1 hbx).1
        have HBX := hide hbx
        have HB := hide hb
        have HALL := hide hall
        clear hbx hb hall
        by_cases hlt : i < c.kinds.length
        · have hltz : (i : Int) < (c.kinds.length : Int) := by omega
          obtain ⟨l, hli⟩ : ∃ l, c.kinds[i]? = some l := ⟨_, List.getElem?_eq_getElem hlt⟩
          obtain ⟨kb, kq, ta, tc, rfl, hkb, v0, v1⟩ := kinds_at ((unhide HK).same (Same.of_below (unhide HB) hC)) hli
          have HLI := hide hli
          have HV1 := hide v1
          have hkbz : kb < wr.heap.size := by omega
          clear hli v1
          by_cases s1 : (l.length : Int) < 1
          · have hR : Hid (CheckIs c 11) := range_no (unhide HSZ) (fun h => by have h9 := (h.kinds l (List.mem_of_getElem? (unhide HLI))).size; omega)
            go_wp2
            go_ret
            exact ⟨11, rfl, unhide hR, unhide HB⟩
          by_cases s2 : (1200 : Int) < (l.length : Int)
          · have hR : Hid (CheckIs c 11) := range_no (unhide HSZ) (fun h => by have h9 := (h.kinds l (List.mem_of_getElem? (unhide HLI))).size; omega)
            go_wp2
            go_ret
            exact ⟨11, rfl, unhide hR, unhide HB⟩
          obtain ⟨wq, rfl⟩ : ∃ x, x = wr := ⟨wr, rfl⟩
          go_wp2
          go_loopg [12] l.length (fun r jv wr => ∃ j : Nat, j ≤ l.length ∧ r = l.length - j ∧ jv = .int .i64 (j : Int) ∧ wr.heap[w.heap.size]? = some (.cells #[.slice a1 c.ops.length c1, .slice a2 c.fns.length c2, .slice (some ⟨kb, kq, none⟩) c.kinds.length c3] 26 (0, 0)) ∧ Below w.heap.size w wr ∧ (0 < j → 0 ≤ l.getD 0 0 ∧ l.getD 0 0 ≤ 1200) ∧ ∀ k x, k + 1 < j → l[k + 1]? = some x → -1 ≤ x ∧ x ≤ (c.fns.length : Int) - 1)
          case atStart => exact ⟨0, Nat.zero_le _, rfl, rfl, unhide HBX, unhide HB, fun h => by omega, fun k x h => by omega⟩
          case round =>
            have HBQ := HB
            clear HBX HB hlt0 y0 y1 y2
            obtain ⟨j, hj, rfl, rfl, hbx, hb, hhead, heach⟩ := hrel
            obtain ⟨y0, y1, y2⟩ := cells3 hbx
            have hlt0 : w.heap.size < wr.heap.size := (Array.getElem?_eq_some_iff.1 hbx).1
            have HBX := hide hbx
            have HB := hide hb
            have HHEAD := hide hhead
            have HEACH := hide heach
            clear hbx hb hhead heach
            have hN : Hid (∀ n, (wr.drewN n).heap[w.heap.size]? = some (.cells #[.slice a1 c.ops.length c1, .slice a2 c.fns.length c2, .slice (some ⟨kb, kq, none⟩) c.kinds.length c3] 26 (0, 0)) ∧ Below w.heap.size w (wr.drewN n)) := fun n => ⟨bx_below (unhide HBX) (drewN_below n wr), (unhide HB).trans ((drewN_below n wr).mono (by omega))⟩
            by_cases hjl : j < l.length
            · have hjz : (j : Int) < (l.length : Int) := by omega
              obtain ⟨x, hx⟩ : ∃ x, l[j]? = some x := ⟨_, List.getElem?_eq_getElem hjl⟩
              obtain ⟨tb, tq, rfl, htb, t0⟩ := ints_at ((unhide HV1).same (fun b o hb9 => ((unhide HB).cell (p := ⟨b, o, none⟩) (by show b < w.heap.size; omega)).trans ((unhide HBQ).cell (p := ⟨b, o, none⟩) (by show b < w.heap.size; omega)).symm)) hx
              have HX := hide hx
              clear hx
              by_cases hj0 : j = 0
              · have e0 : ((j : Int) == 0) = true := by simp [hj0]
                have hx0 : Hid (l.getD 0 0 = x) := by show l.getD 0 0 = x; have := unhide HX; rw [hj0] at this; simp [List.getD, this]
                have HJ0 := hide hj0
                clear hj0
                by_cases s5 : inB x 0 1200 = false
                · have hR : Hid (CheckIs c 11) := range_no (unhide HSZ) (fun h => by have h9 := (h.kinds l (List.mem_of_getElem? (unhide HLI))).head; rw [unhide hx0] at h9; exact inB_no s5 h9)
                  go_wp2
                  go_quiet ((go_at_call 16; exact Calls.quiet_of_same (within_any _ _ _ _)))
                  go_wp2_with (go_at_call 16; refine (within_any _ _ _ _).mono ?_; rintro e w9 ⟨rfl, rfl⟩)
                  go_ret
                  exact ⟨11, rfl, unhide hR, (unhide hN _).2⟩
                · replace s5 : inB x 0 1200 = true := by simpa using s5
                  go_wp2
                  go_quiet ((go_at_call 16; exact Calls.quiet_of_same (within_any _ _ _ _)))
                  go_wp2_with (go_at_call 16; refine (within_any _ _ _ _).mono ?_; rintro e w9 ⟨rfl, rfl⟩)
                  go_roundg (l.length - (j + 1))
                  case measure => omega
                  case rel => exact ⟨j + 1, by omega, rfl, by go_num, (unhide hN _).1, (unhide hN _).2, fun _ => by rw [unhide hx0]; exact inB_yes s5, fun k x h => by have := unhide HJ0; omega⟩
              · have e0 : ((j : Int) == 0) = false := ne_b (by omega)
                by_cases s5 : inB x (-1) ((c.fns.length : Int) - 1) = false
                · have hR : Hid (CheckIs c 11) := range_no (unhide HSZ) (fun h => by have h9 := (h.kinds l (List.mem_of_getElem? (unhide HLI))).each (j - 1) x (by rw [show j - 1 + 1 = j from by omega]; exact unhide HX); exact inB_no s5 h9)
                  go_wp2
                  go_quiet ((go_at_call 16; exact Calls.quiet_of_same (within_any _ _ _ _)))
                  go_wp2_with (go_at_call 16; refine (within_any _ _ _ _).mono ?_; rintro e w9 ⟨rfl, rfl⟩)
                  go_ret
                  exact ⟨11, rfl, unhide hR, (unhide hN _).2⟩
                · replace s5 : inB x (-1) ((c.fns.length : Int) - 1) = true := by simpa using s5
                  go_wp2
                  go_quiet ((go_at_call 16; exact Calls.quiet_of_same (within_any _ _ _ _)))
                  go_wp2_with (go_at_call 16; refine (within_any _ _ _ _).mono ?_; rintro e w9 ⟨rfl, rfl⟩)
                  go_roundg (l.length - (j + 1))
                  case measure => omega
                  case rel =>
                    refine ⟨j + 1, by omega, rfl, by go_num, (unhide hN _).1, (unhide hN _).2, fun _ => unhide HHEAD (by omega), fun k y h hy => ?_⟩
                    by_cases hkj : k + 1 = j
                    · have := unhide HX
                      rw [← hkj, hy] at this
                      simp only [Option.some.injEq] at this
                      subst this
                      exact inB_yes s5
                    · exact unhide HEACH k y (by omega) hy
            · have hjz : ¬ (j : Int) < (l.length : Int) := by omega
              have hnx : Hid (∀ g ∈ c.kinds.take (i + 1), KindOk c g) := by
                intro g hg
                rw [take_snoc' (unhide HLI)] at hg
                simp only [List.mem_append, List.mem_singleton] at hg
                rcases hg with hg | rfl
                · exact unhide HALL g hg
                · refine ⟨by omega, unhide HHEAD (by omega), fun k x hk => unhide HEACH k x ?_ hk⟩
                  have := (List.getElem?_eq_some_iff.1 hk).1
                  omega
              go_wp2
              go_roundg (c.kinds.length - (i + 1))
              case measure => omega
              case rel => exact ⟨i + 1, by omega, rfl, by go_num, unhide HBX, unhide HB, unhide hnx⟩
        · have hltz : ¬ (i : Int) < (c.kinds.length : Int) := by omega
          have HKINDS : Hid (∀ l ∈ c.kinds, KindOk c l) := by
            have := unhide HALL
            rwa [List.take_of_length_le (by omega)] at this
          clear HALL
          obtain ⟨wq, rfl⟩ : ∃ x, x = wr := ⟨wr, rfl⟩
          go_wp2
          clear y0 y1 y2 hlt hltz hi
          go_loopg [14] c.ops.length (fun r iv wr => ∃ i : Nat, i ≤ c.ops.length ∧ r = c.ops.length - i ∧ iv = .int .i64 (i : Int) ∧ wr.heap[w.heap.size]? = some (.cells #[.slice a1 c.ops.length c1, .slice a2 c.fns.length c2, .slice a3 c.kinds.length c3] 26 (0, 0)) ∧ Below w.heap.size w wr ∧ ∀ o ∈ c.ops.take i, OpOk c o)
          case atStart => exact ⟨0, Nat.zero_le _, rfl, rfl, unhide HBX, unhide HB, by simp⟩
          case round =>
            clear HBX HB hlt0
            obtain ⟨i, hi, rfl, rfl, hbx, hb, hall⟩ := hrel
            obtain ⟨y0, y1, y2⟩ := cells3 hbx
            have hlt0 : w.heap.size < wr.heap.size := (Array.getElem?_eq_some_iff.1 hbx).1
            have HBX := hide hbx
            have HB := hide hb
            have HALL := hide hall
            clear hbx hb hall
            by_cases hlt : i < c.ops.length
            · have hltz : (i : Int) < (c.ops.length : Int) := by omega
              obtain ⟨o, hoi⟩ : ∃ o, c.ops[i]? = some o := ⟨_, List.getElem?_eq_getElem hlt⟩
              obtain ⟨ob, oq, rfl, hob, v0, v1, v2⟩ := ops_at ((unhide HO).same (Same.of_below (unhide HB) hC)) hoi
              have HOI := hide hoi
              clear hoi
              have hN : Hid (∀ n w9, Below (wr.drewN n).heap.size (wr.drewN n) w9 → w9.heap[w.heap.size]? = some (.cells #[.slice (some ⟨ob, oq, none⟩) c.ops.length c1, .slice a2 c.fns.length c2, .slice a3 c.kinds.length c3] 26 (0, 0)) ∧ Below w.heap.size w w9) := fun n w9 h9 => ⟨bx_below (bx_below (unhide HBX) (drewN_below n wr)) h9, ((unhide HB).trans ((drewN_below n wr).mono (by omega))).trans (h9.mono (by show w.heap.size ≤ wr.heap.size; omega))⟩
              have hC9 : Hid (∀ n, Calls Try.prog 17 #[.agg #[.slice (some ⟨ob, oq, none⟩) c.ops.length c1, .slice a2 c.fns.length c2, .slice a3 c.kinds.length c3], .agg #[.int .i64 o.d, .int .i64 o.a, .int .i64 o.b]] (wr.drewN n) fun e w' => e = .returned (.bool (rangesB c.fns.length c.kinds.length c.ops.length o)) ∧ Below (wr.drewN n).heap.size (wr.drewN n) w') := fun n => ranges_any _ _ _ _ _ _ _ _ _ o.d o.a o.b _ (by omega) (by omega) (by omega)
              generalize hrb : rangesB c.fns.length c.kinds.length c.ops.length o = rb at hC9
              have HRB := hide hrb
              clear hrb
              cases rb with
              | false =>
                have hR : Hid (CheckIs c 11) := range_no (unhide HSZ) (fun h => by have h9 := h.ops o (List.mem_of_getElem? (unhide HOI)); unfold OpOk at h9; rw [unhide HRB] at h9; simp at h9)
                go_wp2
                go_region_with (go_at_call 17; refine (unhide hC9 _).mono ?_; rintro e w9 ⟨rfl, hb9⟩)
                all_goals
                  go_wp2
                  go_ret
                  exact ⟨11, rfl, unhide hR, (unhide hN _ _ hb9).2⟩
              | true =>
                have hnx : Hid (∀ g ∈ c.ops.take (i + 1), OpOk c g) := by
                  intro g hg
                  rw [take_snoc' (unhide HOI)] at hg
                  simp only [List.mem_append, List.mem_singleton] at hg
                  rcases hg with hg | rfl
                  · exact unhide HALL g hg
                  · exact unhide HRB
                go_wp2
                go_region_with (go_at_call 17; refine (unhide hC9 _).mono ?_; rintro e w9 ⟨rfl, hb9⟩)
                all_goals
                  go_wp2
                  go_roundg (c.ops.length - (i + 1))
                  case measure => omega
                  case rel => exact ⟨i + 1, by omega, rfl, by go_num, (unhide hN _ _ hb9).1, (unhide hN _ _ hb9).2, unhide hnx⟩
            · have hltz : ¬ (i : Int) < (c.ops.length : Int) := by omega
              have HOPS : Hid (∀ o ∈ c.ops, OpOk c o) := by
                have := unhide HALL
                rwa [List.take_of_length_le (by omega)] at this
              have HRANGE : Hid (RangeOk c) := ⟨unhide HFNS, unhide HKINDS, unhide HOPS⟩
              clear HALL HFNS HKINDS HOPS
              obtain ⟨wp, rfl⟩ : ∃ x, x = wr := ⟨wr, rfl⟩
              go_wp2
              clear y0 y1 y2 hlt hltz hi
              go_loopg [16] c.fns.length (fun r iv wr => ∃ i : Nat, i ≤ c.fns.length ∧ r = c.fns.length - i ∧ iv = .int .i64 (i : Int) ∧ wr.heap[w.heap.size]? = some (.cells #[.slice a1 c.ops.length c1, .slice a2 c.fns.length c2, .slice a3 c.kinds.length c3] 26 (0, 0)) ∧ Below w.heap.size w wr ∧ ∀ f ∈ c.fns.take i, FormOk c f)
              case atStart => exact ⟨0, Nat.zero_le _, rfl, rfl, unhide HBX, unhide HB, by simp⟩
              case round =>
                clear HBX HB hlt0
                obtain ⟨i, hi, rfl, rfl, hbx, hb, hall⟩ := hrel
                obtain ⟨y0, y1, y2⟩ := cells3 hbx
                have hlt0 : w.heap.size < wr.heap.size := (Array.getElem?_eq_some_iff.1 hbx).1
                have HBX := hide hbx
                have HB := hide hb
                have HALL := hide hall
                clear hbx hb hall
                by_cases hlt : i < c.fns.length
                · have hltz : (i : Int) < (c.fns.length : Int) := by omega
                  obtain ⟨f, hfi⟩ : ∃ f, c.fns[i]? = some f := ⟨_, List.getElem?_eq_getElem hlt⟩
                  obtain ⟨fb, fq, ta, tc, rfl, hfb, v0, v1, v2, v3, v4⟩ := fns_at ((unhide HF).same (Same.of_below (unhide HB) hC)) hfi
                  have hfm := List.mem_of_getElem? hfi
                  have HFI := hide hfi
                  clear hfi v4
                  have hN : Hid (∀ n w9, Below (wr.drewN n).heap.size (wr.drewN n) w9 → w9.heap[w.heap.size]? = some (.cells #[.slice a1 c.ops.length c1, .slice (some ⟨fb, fq, none⟩) c.fns.length c2, .slice a3 c.kinds.length c3] 26 (0, 0)) ∧ Below w.heap.size w w9) := fun n w9 h9 => ⟨bx_below (bx_below (unhide HBX) (drewN_below n wr)) h9, ((unhide HB).trans ((drewN_below n wr).mono (by omega))).trans (h9.mono (by show w.heap.size ≤ wr.heap.size; omega))⟩
                  have hC9 : Hid (∀ n, Calls Try.prog 18 #[.agg #[.slice a1 c.ops.length c1, .slice (some ⟨fb, fq, none⟩) c.fns.length c2, .slice a3 c.kinds.length c3], .agg #[.int .i64 f.params, .int .i64 f.slots, .int .i64 f.frm, .slice ta f.takes.length tc]] (wr.drewN n) fun e w' => e = .returned (.bool (!(formS c f).bad)) ∧ Below (wr.drewN n).heap.size (wr.drewN n) w') := fun n =>
                    form_any a1 _ a3 c1 c2 c3 c f hfm (wr.drewN n) ta f.takes.length tc C (by show C ≤ wr.heap.size; omega) ((unhide HO).same (Same.of_below ((unhide HB).trans ((drewN_below n wr).mono (by omega))) hC)) ((unhide HF).same (Same.of_below ((unhide HB).trans ((drewN_below n wr).mono (by omega))) hC)) (unhide HSZ) (unhide HRANGE)
                  have hFO : Hid ((formS c f).bad = false ↔ FormOk c f) := form_iff ((unhide HRANGE).fns f hfm).frm.1 ((unhide HRANGE).fns f hfm).frm.2
                  generalize hrb : (formS c f).bad = rb at hC9 hFO
                  clear hrb
                  cases rb with
                  | true =>
                    have hR : Hid (CheckIs c 12) := Or.inr (Or.inr (Or.inl ⟨rfl, unhide HSZ, unhide HRANGE, fun h => by have h9 := (unhide hFO).2 (h f hfm); simp at h9⟩))
                    go_wp2
                    go_region_with (go_at_call 18; refine (unhide hC9 _).mono ?_; rintro e w9 ⟨rfl, hb9⟩)
                    all_goals
                      go_wp2
                      go_ret
                      exact ⟨12, rfl, unhide hR, (unhide hN _ _ hb9).2⟩
                  | false =>
                    have hnx : Hid (∀ g ∈ c.fns.take (i + 1), FormOk c g) := by
                      intro g hg
                      rw [take_snoc' (unhide HFI)] at hg
                      simp only [List.mem_append, List.mem_singleton] at hg
                      rcases hg with hg | rfl
                      · exact unhide HALL g hg
                      · exact (unhide hFO).1 rfl
                    go_wp2
                    go_region_with (go_at_call 18; refine (unhide hC9 _).mono ?_; rintro e w9 ⟨rfl, hb9⟩)
                    all_goals
                      go_wp2
                      go_roundg (c.fns.length - (i + 1))
                      case measure => omega
                      case rel => exact ⟨i + 1, by omega, rfl, by go_num, (unhide hN _ _ hb9).1, (unhide hN _ _ hb9).2, unhide hnx⟩
                · have hltz : ¬ (i : Int) < (c.fns.length : Int) := by omega
                  have hR : Hid (CheckIs c 0) := Or.inr (Or.inr (Or.inr ⟨rfl, unhide HSZ, unhide HRANGE, by have := unhide HALL; rwa [List.take_of_length_le (by omega)] at this⟩))
                  go_wp2
                  go_ret
                  exact ⟨0, rfl, unhide hR, unhide HB⟩
end
end Go.Proofs.Ytdemnolanlfblaa
